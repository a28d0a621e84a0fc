/- The laws' own functions on changes: copies, sizes, comparisons, marks. -/
import Derived.Test.YtddllcgbdgpkbaaBmA
import Derived.Test.YtddllcgbdgpkbaaFldK
namespace Go.Proofs.Ytddllcgbdgpkbaa
open Go.ChangeShapes Go.WideShapes Go.ChangeAt Go.RowKit
set_option linter.unusedVariables false

theorem to_chg (c x y : Int) (w : World) : Calls Try.prog 50 #[chgV c x y] w fun e w' => e = .returned (chgV c x y) ∧ Below w.heap.size w w' := by
  go_enter Try.func50, Try.ntmps50
  go_wp2
  exact bodyPost_ret (v := chgV c x y) (by simp [results, Try.results50, go_sem]) rfl ⟨rfl, below3 w _ _ _⟩
theorem eq_chg (c x y : Int) (w : World) : Calls Try.prog 51 #[chgV c x y, chgV c x y] w fun e w' => e = .returned (.bool true) ∧ Below w.heap.size w w' := by
  go_enter Try.func51, Try.ntmps51
  go_wp2
  go_ret
  exact ⟨rfl, below2 w _ _⟩
theorem chg_infoL : (Try.prog.info? 76).map (·.size) = some 3 := by kernel_rfl
section
variable {ops : Array Oper} {rest : List Oper} {o : Oper} {a : Act} {w : World} {Q : Exit → Act → World → Prop}
theorem ch_loadmL (hw : Region.wanted o (yielded ops a.tmps) = true) (x : Operand) (ho : o.op = .load 76 x) (b k : Nat) (hx : a.eval x = .pointer (some ⟨b, k, none⟩)) (u v z : Int) (hb : w.rangeAt b k (iv [u, v, z]))
    (h : wpList Try.prog ops Q rest (a.put o.dst (chgV u v z)) w) : wpList Try.prog ops Q (o :: rest) a w :=
  wpList_step fun K hK => by
    rw [if_pos hw]
    exact wp_load_mid _ x ho b k hx (iv [u, v, z]) _ hb Try.underlying76 rfl chg_infoL (hK _ _ h)
end
theorem chg_el {L : List Int} {k m : Nat} (h : L.length = 3 * m) (hk : k < m) : (L.drop (3 * k)).take 3 = [cC L k, cX L k, cY L k] := by
  apply List.ext_getElem?
  intro i
  rw [List.getElem?_take, List.getElem?_drop]
  by_cases h3 : i < 3
  · rw [if_pos h3]
    have hi : i = 0 ∨ i = 1 ∨ i = 2 := by omega
    rcases hi with rfl | rfl | rfl
    · show L[3 * k]? = some (cC L k)
      unfold cC; rw [List.getD_eq_getElem?_getD, List.getElem?_eq_getElem (by omega)]; rfl
    · show L[3 * k + 1]? = some (cX L k)
      unfold cX; rw [List.getD_eq_getElem?_getD, List.getElem?_eq_getElem (by omega)]; rfl
    · show L[3 * k + 2]? = some (cY L k)
      unfold cY; rw [List.getD_eq_getElem?_getD, List.getElem?_eq_getElem (by omega)]; rfl
  · rw [if_neg h3, List.getElem?_eq_none (by simp; omega)]
/-- A row of m changes of which k stand. -/
def tkL (L : List Int) (k m : Nat) : List Int := L.take (3 * k) ++ List.replicate (3 * m - 3 * k) 0
def tkC (L : List Int) (k m : Nat) : List Value := iv (tkL L k m)
theorem tkL_step {L : List Int} {k m : Nat} (h : L.length = 3 * m) (hk : k < m) : (tkL L k m).take (k * 3) ++ [cC L k, cX L k, cY L k] ++ (tkL L k m).drop (k * 3 + 3) = tkL L (k + 1) m := by
  have l1 : (L.take (3 * k)).length = k * 3 := by rw [List.length_take]; omega
  have e1 : (tkL L k m).take (k * 3) = L.take (3 * k) := by
    unfold tkL
    rw [← l1, List.take_left]
  have e2 : (tkL L k m).drop (k * 3 + 3) = List.replicate (3 * m - 3 * (k + 1)) 0 := by
    unfold tkL
    rw [← List.drop_drop, ← l1, List.drop_left, List.drop_replicate]
    congr 1
  rw [e1, e2, ← chg_el h hk]
  unfold tkL
  congr 1
  rw [show 3 * (k + 1) = 3 * k + 3 by omega, List.take_add]
theorem tkC_len {S : List Int} {k m : Nat} (h : S.length = 3 * m) (hk : k ≤ m) : (tkC S k m).length = 3 * m := by
  unfold tkC tkL; simp; omega
theorem tkC_all {S : List Int} {m : Nat} (h : S.length = 3 * m) : tkC S m m = iv S := by
  unfold tkC tkL; rw [Nat.sub_self, List.replicate_zero, List.append_nil, List.take_of_length_le (by omega)]
theorem tkC_step {S : List Int} {k m : Nat} (h : S.length = 3 * m) (hk : k < m) : (tkC S k m).take (k * 3) ++ iv [cC S k, cX S k, cY S k] ++ (tkC S k m).drop (k * 3 + 3) = tkC S (k + 1) m := by
  unfold tkC
  rw [← tkL_step h hk]
  unfold iv
  rw [List.map_append, List.map_append, List.map_take, List.map_drop]
theorem made_chgs (n : Nat) : madeCells (Value.agg (iv [0, 0, 0]).toArray).cells (n * 3) = (iv (List.replicate (3 * n) 0)).toArray := by
  apply Array.ext
  · rw [size_madeCells]; simp; omega
  · intro j h1 h2
    simp only [madeCells, Value.cells, Array.getElem_map, Array.getElem_range]
    have h3 : j % (iv [0, 0, 0]).toArray.size < 3 := Nat.mod_lt _ (by decide)
    generalize j % (iv [0, 0, 0]).toArray.size = q at h3
    have h4 : (iv [0, 0, 0]).toArray[q]! = .int .i64 0 := by
      have hq : q = 0 ∨ q = 1 ∨ q = 2 := by omega
      rcases hq with rfl | rfl | rfl <;> rfl
    rw [h4]
    simp
theorem run_make_chgs (n : Nat) (hn : n ≤ 1000000000) (w : World) : (Instr.makeSlice 23 (.int .i64 (n : Int)) (.int .i64 (n : Int))).run Try.prog w = .ok (.slice (some ⟨w.heap.size, 0, none⟩) n n) (w.alloc (.cells (tkC [] 0 n).toArray 27)) := by
  obtain ⟨i, hi, hz, hs, hb⟩ := chg_parts
  have hr := run_make (P := Try.prog) w 23 27 i (.agg (iv [0, 0, 0]).toArray) Try.underlying23 hi hz .i64 .i64 n n (by omega) (Int.le_refl _) (by rw [hb]; omega) (by omega)
  rw [hs] at hr
  simp only [Int.toNat_natCast, made_chgs] at hr
  rw [hr]
  rfl
set_option maxHeartbeats 2000000 in
theorem to_chgs (A : Option Addr) (m c : Nat) (S : List Int) (fa : List Nat) (w : World) (ha : Ints w A (3 * m) S fa) (hn : m ≤ 1000000000) :
    Calls Try.prog 24 #[.slice A m c] w (CopiedC S m w) := by
  have HA := Lib.hid ha
  have HZ := Lib.hid ha.1
  clear ha
  have hmk := run_make_chgs m hn
  have h00 : Hid (tkC [] 0 m = tkC S 0 m) := Lib.hid (by simp [tkC, tkL])
  go_enter Try.func24, Try.ntmps24
  go_wp2_with fail
  obtain ⟨w1, hw1⟩ : ∃ w1, w1 = w.alloc (.cells (tkC [] 0 m).toArray 27) := ⟨_, rfl⟩
  have Y1 : Hid (Box w1 w.heap.size 27 (tkC S 0 m)) := by rw [hw1, h00.out]; exact Box.new _ _ _
  have B1 : Hid (Below w.heap.size w w1) := by rw [hw1]; exact below1 w _
  rw [← hw1]
  clear hw1 hmk
  go_loopw [4] (fun i wr => ∃ k : Nat, k ≤ m ∧ i = .int .i64 k ∧ Box wr w.heap.size 27 (tkC S k m) ∧ Below w.heap.size w wr) (fun i _ => m - (intOf i).toNat)
  case atStart => exact ⟨0, by omega, rfl, Y1.out, B1.out⟩
  case round =>
    obtain ⟨k, hk, rfl, hy, hb⟩ := hrel
    have YR := Lib.hid hy
    have BR := Lib.hid hb
    clear hy hb Y1 B1
    by_cases hlt : k < m
    · obtain ⟨p, o, rfl, _, _, hc⟩ := HA.out.at_ (by omega)
      clear hc
      have RG := Lib.hid (chg_range (HA.out.below BR.out) hlt)
      have HST := Lib.hid (tkC_step HZ.out hlt)
      have HTL := Lib.hid (tkC_len HZ.out hk)
      generalize cC S k = s1 at RG HST
      generalize cX S k = s2 at RG HST
      generalize cY S k = s3 at RG HST
      go_wp2_with (first | (refine ch_loadmL (by rfl) _ rfl _ _ rfl s1 s2 s3 RG.out ?_))
      refine (to_chg s1 s2 s3 _).mono ?_; rintro e w2 ⟨rfl, b2⟩
      have Y2 := Lib.hid (YR.out.below b2)
      have B2 := Lib.hid (below_then BR.out b2)
      clear b2
      go_wp2_with (first | (refine ch_storem (by rfl) _ _ rfl w.heap.size (k * 3) rfl s1 s2 s3 rfl _ (tkC S k m) Y2.out (by rw [HTL.out]; omega) (tkC S (k + 1) m) HST.out ?_))
      go_roundw
      case rel => exact ⟨k + 1, by omega, by go_num, Box.row Y2.out, below_row B2.out (Nat.le_refl _) _⟩
      case measure => simp [intOf]; omega
    · obtain rfl : k = m := by omega
      have HAL := Lib.hid (tkC_all HZ.out)
      go_wp2_with fail
      go_ret
      have YF := YR.out
      rw [HAL.out] at YF
      refine ⟨_, _, if k = 0 then [] else [w.heap.size], rfl, Nat.le_refl _, ⟨HZ.out, ?_⟩, ?_, BR.out⟩
      · by_cases h0 : k = 0
        · exact .inl ⟨by omega, if_pos h0⟩
        · exact .inr ⟨by omega, w.heap.size, 0, rfl, if_neg h0, YF.lt, fun i hi => by rw [Nat.zero_add, YF.cell i]; exact iv_at S i (by rw [HZ.out]; exact hi)⟩
      · by_cases h0 : k = 0
        · rw [if_pos h0]; exact .nil _ _
        · rw [if_neg h0]; exact .one (Nat.le_refl _) YF.lt YF.frozen
theorem sz_chgs_yes (A : Option Addr) (n c : Nat) (left : Int) (w : World) (h : (n : Int) ≤ left) (hl : left ≤ 1000000000) :
    Calls Try.prog 23 #[.slice A n c, .int .i64 left] w fun e w' => e = .returned (.int .i64 (left - n)) ∧ w = w' := by
  go_enter Try.func23, Try.ntmps23
  go_wp2
  go_ret
  exact ⟨rfl, rfl⟩
theorem sz_chgs_no (A : Option Addr) (n c : Nat) (left : Int) (w : World) (h : left < n) (hl : -1 ≤ left) (hn : n ≤ 9223372036854775807) :
    Calls Try.prog 23 #[.slice A n c, .int .i64 left] w fun e w' => e = .returned (.int .i64 (-1)) ∧ w = w' := by
  go_enter Try.func23, Try.ntmps23
  go_wp2
  go_ret
  exact ⟨rfl, rfl⟩
section
variable {ops : Array Oper} {Q : Exit → Act → World → Prop} {T : Nat → Value → World → Prop} {a0 : Act} {w0 : World} {i : Nat} {o : Oper}
/-- A sprite is loaded out of the middle of a block. -/
theorem lb_chgm (x : Operand) (b k : Nat) (u v z : Int) (hop : o.op = .load 27 x) (hr : ∀ w, Below w0.heap.size w0 w → w.rangeAt b k (iv [u, v, z])) (hw : ∀ (ρ : Operand → Value) w, PreR ops T ρ w o.after.toList → wantV ops (slotR ρ) o = true)
    (h : ∀ (ρ : Operand → Value) w, (∀ n, (ops.toList.all fun o => o.dst != some n) = true → ρ (.tmp n) = a0.eval (.tmp n)) → PreR ops T ρ w o.after.toList → ρ x = .pointer (some ⟨b, k, none⟩) ∧ T i (dstV o (chgV u v z)) w) : Ob Try.prog ops Q (ClB w0) RlB T a0 i o :=
  lb_val (chgV u v z) hw fun ρ w hbl _ hx hp' => by
    obtain ⟨h1, h2⟩ := h ρ w hx hp'
    refine ⟨?_, h2⟩
    have hl := run_loadAt_mid (P := Try.prog) w b k 27 (iv [u, v, z]) _ (hr w hbl) Try.underlying27 rfl chg_info
    unfold execOp
    simp only [hop, h1]
    simp only [Sem.run_bind, hl, Result.andThen_ok, Sem.run_pure]
    rfl
end
set_option maxHeartbeats 2000000 in
theorem eq_chgs (A B : Option Addr) (m c d : Nat) (S : List Int) (fa fb : List Nat) (w : World) (ha : Ints w A (3 * m) S fa) (hb : Ints w B (3 * m) S fb) (hn : m ≤ 1000000000) :
    Calls Try.prog 25 #[.slice A m c, .slice B m d] w fun e w' => e = .returned (.bool true) ∧ Below w.heap.size w w' := by
  have HA := Lib.hid ha
  have HB := Lib.hid hb
  clear ha hb
  go_enter Try.func25, Try.ntmps25
  go_wp2_with fail
  go_loopw [5] (fun i wr => ∃ k : Nat, k ≤ m ∧ i = .int .i64 k ∧ Below w.heap.size w wr) (fun i _ => m - (intOf i).toNat)
  case atStart => exact ⟨0, by omega, rfl, Below.refl _ _⟩
  case round =>
    obtain ⟨k, hk, rfl, hbl⟩ := hrel
    have BR := Lib.hid hbl
    clear hbl
    by_cases hlt : k < m
    · obtain ⟨p, o, rfl, _, _, hc⟩ := HA.out.at_ (by omega)
      obtain ⟨q, u, rfl, _, _, hd⟩ := HB.out.at_ (by omega)
      clear hc hd
      have RA : Hid (∀ w', Below wr.heap.size wr w' → w'.rangeAt p (o + k * 3) (iv [cC S k, cX S k, cY S k])) := Lib.hid fun w' hw' => chg_range ((HA.out.below BR.out).below hw') hlt
      have RB : Hid (∀ w', Below wr.heap.size wr w' → w'.rangeAt q (u + k * 3) (iv [cC S k, cX S k, cY S k])) := Lib.hid fun w' hw' => chg_range ((HB.out.below BR.out).below hw') hlt
      generalize cC S k = s1 at RA RB
      generalize cX S k = s2 at RA RB
      generalize cY S k = s3 at RA RB
      have hkm : (k : Int) < m := by omega
      have hk0 : 0 ≤ (k : Int) := by omega
      go_wp2_with fail
      refine wp_region_typed (ClB wr) RlB (Ty [TV (.slice (some ⟨p, o, none⟩) m c), TV (.int .i64 k), TV (.pointer (some ⟨p, o + k * 3, none⟩)), TV (chgV s1 s2 s3), TV (.slice (some ⟨q, u, none⟩) m d), TV (.int .i64 k), TV (.pointer (some ⟨q, u + k * 3, none⟩)), TV (chgV s1 s2 s3), TV (.bool true), TV (.bool false)])
        (by kernel_rfl) (by kernel_rfl) (stab_ty _ ⟨stabB_k _, stabB_k _, stabB_k _, stabB_k _, stabB_k _, stabB_k _, stabB_k _, stabB_k _, stabB_k _, stabB_k _, trivial⟩) (Below.refl _ _).drew ?_ ?_
      · refine ⟨?_, ?_, ?_, ?_, ?_, ?_, ?_, ?_, ?_, ?_, trivial⟩
        · exact lb_move (.tmp 0) (.inl rfl) (fun _ _ _ => want_none rfl) fun ρ wx hc hx hp => hx 0 rfl
        · exact lb_move (.tmp 5) (.inl rfl) (fun _ _ _ => want_none rfl) fun ρ wx hc hx hp => hx 5 rfl
        · refine lb_val (.pointer (some ⟨p, o + k * 3, none⟩)) (fun _ _ _ => want_none rfl) fun ρ wx hb hc hx hp => ⟨?_, rfl⟩
          have h0 : ρ (.tmp 17) = .slice (some ⟨p, o, none⟩) m c := hp.1 rfl
          have h1 : ρ (.tmp 18) = .int .i64 k := hp.2.1 rfl
          unfold execOp
          simp only [h0, h1]
          clear h0 h1 hx hc hp hb
          go_simp
        · exact lb_chgm (.tmp 19) p (o + k * 3) s1 s2 s3 rfl RA.out (fun _ _ _ => want_none rfl) fun ρ wx hx hp => ⟨hp.1 rfl, rfl⟩
        · exact lb_move (.tmp 1) (.inl rfl) (fun _ _ _ => want_none rfl) fun ρ wx hc hx hp => hx 1 rfl
        · exact lb_move (.tmp 5) (.inl rfl) (fun _ _ _ => want_none rfl) fun ρ wx hc hx hp => hx 5 rfl
        · refine lb_val (.pointer (some ⟨q, u + k * 3, none⟩)) (fun _ _ _ => want_none rfl) fun ρ wx hb hc hx hp => ⟨?_, rfl⟩
          have h0 : ρ (.tmp 21) = .slice (some ⟨q, u, none⟩) m d := hp.1 rfl
          have h1 : ρ (.tmp 22) = .int .i64 k := hp.2.1 rfl
          unfold execOp
          simp only [h0, h1]
          clear h0 h1 hx hc hp hb
          go_simp
        · exact lb_chgm (.tmp 23) q (u + k * 3) s1 s2 s3 rfl RB.out (fun _ _ _ => want_none rfl) fun ρ wx hx hp => ⟨hp.1 rfl, rfl⟩
        · refine lb_known _ _ _ (.bool true) (fun _ _ => by simp [go_sem]) rfl (fun _ _ _ => want_none rfl) #[chgV s1 s2 s3, chgV s1 s2 s3] (fun w hb => eq_chg s1 s2 s3 w) (fun ρ wx hc hx hp => ?_) (fun _ => rfl)
          have h0 : ρ (.tmp 20) = chgV s1 s2 s3 := hp.1 rfl
          have h1 : ρ (.tmp 24) = chgV s1 s2 s3 := hp.2.1 rfl
          simp only [List.map_toArray, List.map_cons, List.map_nil, h0, h1]
        · exact lb_unot (.tmp 25) _ true rfl (fun _ _ _ => want_none rfl) fun ρ wx hp => ⟨hp.1 rfl, rfl⟩
      intro vs wx hI hF
      obtain ⟨_, _, _, _, _, _, _, _, _, h9, _⟩ := hF
      replace h9 : vs 9 = .bool false := h9
      have HI : Hid (Below wr.heap.size wr wx) := hI
      simp only [putAll, Act.put, List.setIfInBounds_toArray, List.set_cons_zero, List.set_cons_succ, h9]
      clear hI h9
      have BX := Lib.hid (below_then BR.out HI.out)
      go_wp2_with fail
      go_roundw
      case rel => exact ⟨k + 1, by omega, by go_num, BX.out⟩
      case measure => simp [intOf]; omega
    · go_wp2_with fail
      go_ret
      exact ⟨rfl, BR.out⟩
/-- Cells of a block are there. -/
def Cells (w : World) (p o N : Nat) : Prop := ∀ q, q < N → ∃ v, w.cell? ⟨p, o + q, none⟩ = some v
theorem Cells.set {w : World} {p o N : Nat} (h : Cells w p o N) (a : Addr) (v : Value) : Cells (w.setCell a v) p o N := fun q hq => by
  obtain ⟨u, hu⟩ := h q hq
  by_cases e : a = ⟨p, o + q, none⟩
  · subst e; exact ⟨v, World.cell?_setCell_same' w _ v (by rw [hu]; rfl)⟩
  · refine ⟨u, Eq.trans ?_ hu⟩
    apply World.cell?_setCell_other
    exact e
/-- What marking leaves. -/
def MarkedC (n : Nat) (k : Int) (fp : List Nat) (w : World) (e : Ending) (w' : World) : Prop := e = .returned (.int .i64 (k + 3 * n)) ∧ Only fp w w'
theorem frozen_twoC {w : World} {a b : Addr} {u v : Value} (h : w.frozen? b = false) : ((w.setCell a u).frozen? b) = false := by rw [World.frozen?_setCell]; exact h
set_option maxRecDepth 100000 in
set_option maxHeartbeats 4000000 in
theorem mark_chgs (A : Option Addr) (m c : Nat) (k0 : Int) (S : List Int) (fp : List Nat) (w : World) (ha : Ints w A (3 * m) S fp) (hf : ∀ b ∈ fp, ∀ o, w.frozen? ⟨b, o, none⟩ = false) (hn : m ≤ 100000000) (h0 : 0 ≤ k0) (h1 : k0 ≤ 10000000000) :
    Calls Try.prog 31 #[.slice A m c, .int .i64 k0] w (MarkedC m k0 fp w) := by
  cases m with
  | zero =>
    clear ha
    go_enter Try.func31, Try.ntmps31
    go_wp2_with fail
    go_loopw [1, 5] (fun q i wr => i = .int .i64 0 ∧ q = .int .i64 k0 ∧ wr = w) (fun _ _ _ => 0)
    case atStart => exact ⟨rfl, rfl, rfl⟩
    case round =>
      obtain ⟨rfl, rfl, rfl⟩ := hrel
      go_wp2_with fail
      go_ret
      exact ⟨ret_int (by omega), Only.refl _ _⟩
  | succ m' =>
    obtain ⟨m, hm⟩ : ∃ m, m = m' + 1 := ⟨_, rfl⟩
    rw [← hm] at ha hn ⊢
    have hm0 : 0 < m := by omega
    clear hm
    obtain ⟨p, o, rfl, hfp, hpl, hc⟩ := ha.at_ (by omega)
    have HC : Hid (Cells w p o (3 * m)) := Lib.hid fun q hq => ⟨_, hc q (by omega)⟩
    have HG : Hid (∀ q, w.frozen? ⟨p, q, none⟩ = false) := Lib.hid fun q => hf p (by rw [hfp]; simp) q
    have HP := Lib.hid hfp
    clear ha hf hc hfp
    go_enter Try.func31, Try.ntmps31
    go_wp2_with fail
    go_loopw [1, 5] (fun q i wr => ∃ k : Nat, k ≤ m ∧ i = .int .i64 k ∧ q = .int .i64 (k0 + 3 * k) ∧ Cells wr p o (3 * m) ∧ Only fp w wr ∧ (∀ q, wr.frozen? ⟨p, q, none⟩ = false)) (fun _ i _ => m - (intOf i).toNat)
    case atStart => exact ⟨0, Nat.zero_le _, rfl, by simp, HC.out, Only.refl _ _, HG.out⟩
    case round =>
      obtain ⟨k, hk, rfl, rfl, hr, hb, hf⟩ := hrel
      have HR := Lib.hid hr
      have HB := Lib.hid hb
      have HF := Lib.hid hf
      clear hr hb hf HC HG
      by_cases hlt : k < m
      · obtain ⟨v0, c0⟩ := HR.out (3 * k + 0) (by omega)
        obtain ⟨v1, c1⟩ := HR.out (3 * k + 1) (by omega)
        obtain ⟨v2, c2⟩ := HR.out (3 * k + 2) (by omega)
        rw [show o + (3 * k + 0) = o + k * 3 by omega] at c0
        rw [show o + (3 * k + 1) = o + k * 3 + 1 by omega] at c1
        rw [show o + (3 * k + 2) = o + k * 3 + 2 by omega] at c2
        have g0 := HF.out (o + k * 3)
        have g1 := HF.out (o + k * 3 + 1)
        have g2 := HF.out (o + k * 3 + 2)
        have hkm : (k : Int) < m := by omega
        have hk0 : 0 ≤ (k : Int) := by omega
        go_wp2_with fail
        have hpf : p ∈ fp := by rw [HP.out]; simp
        go_roundw
        case rel => exact ⟨k + 1, by omega, by go_num, by go_num, ((HR.out.set _ _).set _ _).set _ _, ((HB.out.setCell (.inl hpf) _).setCell (.inl hpf) _).setCell (.inl hpf) _, fun q => by simp only [World.frozen?_setCell]; exact HF.out q⟩
        case measure => simp [intOf]; omega
      · obtain rfl : k = m := by omega
        go_wp2_with fail
        go_ret
        exact ⟨ret_int (by omega), HB.out⟩
end Go.Proofs.Ytddllcgbdgpkbaa
