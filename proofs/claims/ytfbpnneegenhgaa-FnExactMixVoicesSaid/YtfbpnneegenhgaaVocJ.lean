/- The laws' own functions on sound channels: copies, sizes, comparisons, marks. -/
import Derived.Test.YtfbpnneegenhgaaVocA
import Derived.Test.YtfbpnneegenhgaaFldJ
import Derived.Test.YtfbpnneegenhgaaFldK
import Derived.Test.YtfbpnneegenhgaaGC
namespace Go.Proofs.Ytfbpnneegenhgaa
open Go.ChangeShapes Go.WideShapes Go.ChangeAt Go.RowKit
set_option linter.unusedVariables false

theorem to_voc (u : Voc) (w : World) : Calls Try.prog 31 #[vocV u] w fun e w' => e = .returned (vocV u) ∧ Below w.heap.size w w' := by
  obtain ⟨l, h, v, s, e⟩ := u
  go_enter Try.func31, Try.ntmps31
  go_wp2
  exact bodyPost_ret (v := vocV ⟨l, h, v, s, e⟩) (by simp [results, Try.results31, go_sem]) rfl ⟨rfl, below3 w _ _ _⟩
theorem eq_voc (u : Voc) (w : World) : Calls Try.prog 33 #[vocV u, vocV u] w fun e w' => e = .returned (.bool true) ∧ Below w.heap.size w w' := by
  obtain ⟨l, h, v, s, e⟩ := u
  go_enter Try.func33, Try.ntmps33
  go_wp2
  go_ret
  exact ⟨rfl, below2 w _ _⟩
theorem voc_infoL : (Try.prog.info? 43).map (·.size) = some 5 := by kernel_rfl
section
variable {ops : Array Oper} {rest : List Oper} {o : Oper} {a : Act} {w : World} {Q : Exit → Act → World → Prop}
theorem vo_loadmL (hw : Region.wanted o (yielded ops a.tmps) = true) (x : Operand) (ho : o.op = .load 43 x) (b k : Nat) (hx : a.eval x = .pointer (some ⟨b, k, none⟩)) (u : Voc) (hb : w.rangeAt b k (vcs u))
    (h : wpList Try.prog ops Q rest (a.put o.dst (vocV u)) w) : wpList Try.prog ops Q (o :: rest) a w :=
  wpList_step fun K hK => by
    rw [if_pos hw]
    exact wp_load_mid _ x ho b k hx (vcs u) _ hb Try.underlying43 rfl voc_infoL (hK _ _ h)
end
theorem voc_el {L : List Int} {k m : Nat} (h : L.length = 5 * m) (hk : k < m) : (L.drop (5 * k)).take 5 = vocN (vocK L k) := by
  apply List.ext_getElem?
  intro i
  rw [List.getElem?_take, List.getElem?_drop]
  by_cases h3 : i < 5
  · rw [if_pos h3]
    have g : ∀ j, j < 5 → L[5 * k + j]? = some (L.getD (5 * k + j) 0) := fun j hj => by
      rw [List.getD_eq_getElem?_getD, List.getElem?_eq_getElem (by omega)]; rfl
    rw [g i h3]
    have hi : i = 0 ∨ i = 1 ∨ i = 2 ∨ i = 3 ∨ i = 4 := by omega
    rcases hi with rfl | rfl | rfl | rfl | rfl <;> rfl
  · rw [if_neg h3, List.getElem?_eq_none (by rw [vocN_len]; omega)]
/-- A row of m channels of which k stand. -/
def tkP (L : List Int) (k m : Nat) : List Int := L.take (5 * k) ++ List.replicate (5 * m - 5 * k) 0
def tkO (L : List Int) (k m : Nat) : List Value := iv (tkP L k m)
theorem tkP_step {L : List Int} {k m : Nat} (h : L.length = 5 * m) (hk : k < m) : (tkP L k m).take (k * 5) ++ vocN (vocK L k) ++ (tkP L k m).drop (k * 5 + 5) = tkP L (k + 1) m := by
  have l1 : (L.take (5 * k)).length = k * 5 := by rw [List.length_take]; omega
  have e1 : (tkP L k m).take (k * 5) = L.take (5 * k) := by
    unfold tkP
    rw [← l1, List.take_left]
  have e2 : (tkP L k m).drop (k * 5 + 5) = List.replicate (5 * m - 5 * (k + 1)) 0 := by
    unfold tkP
    rw [← List.drop_drop, ← l1, List.drop_left, List.drop_replicate]
    congr 1
  rw [e1, e2, ← voc_el h hk]
  unfold tkP
  congr 1
  rw [show 5 * (k + 1) = 5 * k + 5 by omega, List.take_add]
theorem tkO_len {S : List Int} {k m : Nat} (h : S.length = 5 * m) (hk : k ≤ m) : (tkO S k m).length = 5 * m := by
  unfold tkO tkP; simp; omega
theorem tkO_all {S : List Int} {m : Nat} (h : S.length = 5 * m) : tkO S m m = iv S := by
  unfold tkO tkP; rw [Nat.sub_self, List.replicate_zero, List.append_nil, List.take_of_length_le (by omega)]
theorem tkO_step {S : List Int} {k m : Nat} (h : S.length = 5 * m) (hk : k < m) : (tkO S k m).take (k * 5) ++ vcs (vocK S k) ++ (tkO S k m).drop (k * 5 + 5) = tkO S (k + 1) m := by
  unfold tkO
  rw [← tkP_step h hk, ← iv_vocN]
  unfold iv
  rw [List.map_append, List.map_append, List.map_take, List.map_drop]
theorem made_vocs (n : Nat) : madeCells (Value.agg (iv [0, 0, 0, 0, 0]).toArray).cells (n * 5) = (iv (List.replicate (5 * n) 0)).toArray := by
  apply Array.ext
  · rw [size_madeCells]; simp; omega
  · intro j h1 h2
    simp only [madeCells, Value.cells, Array.getElem_map, Array.getElem_range]
    have h3 : j % (iv [0, 0, 0, 0, 0]).toArray.size < 5 := Nat.mod_lt _ (by decide)
    generalize j % (iv [0, 0, 0, 0, 0]).toArray.size = q at h3
    have h4 : (iv [0, 0, 0, 0, 0]).toArray[q]! = .int .i64 0 := by
      have hq : q = 0 ∨ q = 1 ∨ q = 2 ∨ q = 3 ∨ q = 4 := by omega
      rcases hq with rfl | rfl | rfl | rfl | rfl <;> rfl
    rw [h4]
    simp
theorem run_make_vocs (n : Nat) (hn : n ≤ 1000000000) (w : World) : (Instr.makeSlice 36 (.int .i64 (n : Int)) (.int .i64 (n : Int))).run Try.prog w = .ok (.slice (some ⟨w.heap.size, 0, none⟩) n n) (w.alloc (.cells (tkO [] 0 n).toArray 24)) := by
  obtain ⟨i, hi, hz, hs, hb⟩ := voc_parts
  have hr := run_make (P := Try.prog) w 36 24 i (.agg (iv [0, 0, 0, 0, 0]).toArray) Try.underlying36 hi hz .i64 .i64 n n (by omega) (Int.le_refl _) (by rw [hb]; omega) (by omega)
  rw [hs] at hr
  simp only [Int.toNat_natCast, made_vocs] at hr
  rw [hr]
  rfl
set_option maxHeartbeats 2000000 in
theorem to_vocs (A : Option Addr) (m c : Nat) (S : List Int) (fa : List Nat) (w : World) (ha : Ints w A (5 * m) S fa) (hn : m ≤ 1000000000) :
    Calls Try.prog 37 #[.slice A m c] w (CopiedO S m w) := by
  have HA := Lib.hid ha
  have HZ := Lib.hid ha.1
  clear ha
  have hmk := run_make_vocs m hn
  have h00 : Hid (tkO [] 0 m = tkO S 0 m) := Lib.hid (by simp [tkO, tkP])
  go_enter Try.func37, Try.ntmps37
  go_wp2_with fail
  obtain ⟨w1, hw1⟩ : ∃ w1, w1 = w.alloc (.cells (tkO [] 0 m).toArray 24) := ⟨_, rfl⟩
  have Y1 : Hid (Box w1 w.heap.size 24 (tkO S 0 m)) := by rw [hw1, h00.out]; exact Box.new _ _ _
  have B1 : Hid (Below w.heap.size w w1) := by rw [hw1]; exact below1 w _
  rw [← hw1]
  clear hw1 hmk
  go_loopw [4] (fun i wr => ∃ k : Nat, k ≤ m ∧ i = .int .i64 k ∧ Box wr w.heap.size 24 (tkO S k m) ∧ Below w.heap.size w wr) (fun i _ => m - (intOf i).toNat)
  case atStart => exact ⟨0, by omega, rfl, Y1.out, B1.out⟩
  case round =>
    obtain ⟨k, hk, rfl, hy, hb⟩ := hrel
    have YR := Lib.hid hy
    have BR := Lib.hid hb
    clear hy hb Y1 B1
    by_cases hlt : k < m
    · obtain ⟨p, o, rfl, _, _, hc⟩ := HA.out.at_ (by omega)
      clear hc
      have RG := Lib.hid (voc_range (HA.out.below BR.out) hlt)
      have HST := Lib.hid (tkO_step HZ.out hlt)
      have HTL := Lib.hid (tkO_len HZ.out hk)
      generalize vocK S k = s at RG HST
      go_wp2_with (first | (refine vo_loadmL (by rfl) _ rfl _ _ rfl s RG.out ?_))
      refine (to_voc s _).mono ?_; rintro e w2 ⟨rfl, b2⟩
      have Y2 := Lib.hid (YR.out.below b2)
      have B2 := Lib.hid (below_then BR.out b2)
      clear b2
      go_wp2_with (first | (refine vo_storem (by rfl) _ _ rfl w.heap.size (k * 5) rfl s rfl _ (tkO S k m) Y2.out (by rw [HTL.out]; omega) (tkO S (k + 1) m) HST.out ?_))
      go_roundw
      case rel => exact ⟨k + 1, by omega, by go_num, Box.row Y2.out, below_row B2.out (Nat.le_refl _) _⟩
      case measure => simp [intOf]; omega
    · obtain rfl : k = m := by omega
      have HAL := Lib.hid (tkO_all HZ.out)
      go_wp2_with fail
      go_ret
      have YF := YR.out
      rw [HAL.out] at YF
      refine ⟨_, _, if k = 0 then [] else [w.heap.size], rfl, Nat.le_refl _, ⟨HZ.out, ?_⟩, ?_, BR.out⟩
      · by_cases h0 : k = 0
        · exact .inl ⟨by omega, if_pos h0⟩
        · exact .inr ⟨by omega, w.heap.size, 0, rfl, if_neg h0, YF.lt, fun i hi => by rw [Nat.zero_add, YF.cell i]; exact iv_at S i (by rw [HZ.out]; exact hi)⟩
      · by_cases h0 : k = 0
        · rw [if_pos h0]; exact .nil _ _
        · rw [if_neg h0]; exact .one (Nat.le_refl _) YF.lt YF.frozen
theorem sz_vocs_yes (A : Option Addr) (n c : Nat) (left : Int) (w : World) (h : (n : Int) ≤ left) (hl : left ≤ 1000000000) :
    Calls Try.prog 36 #[.slice A n c, .int .i64 left] w fun e w' => e = .returned (.int .i64 (left - n)) ∧ w = w' := by
  go_enter Try.func36, Try.ntmps36
  go_wp2
  go_ret
  exact ⟨rfl, rfl⟩
theorem sz_vocs_no (A : Option Addr) (n c : Nat) (left : Int) (w : World) (h : left < n) (hl : -1 ≤ left) (hn : n ≤ 9223372036854775807) :
    Calls Try.prog 36 #[.slice A n c, .int .i64 left] w fun e w' => e = .returned (.int .i64 (-1)) ∧ w = w' := by
  go_enter Try.func36, Try.ntmps36
  go_wp2
  go_ret
  exact ⟨rfl, rfl⟩
section
variable {ops : Array Oper} {Q : Exit → Act → World → Prop} {T : Nat → Value → World → Prop} {a0 : Act} {w0 : World} {i : Nat} {o : Oper}
/-- A sprite is loaded out of the middle of a block. -/
theorem lb_vocm (x : Operand) (b k : Nat) (s : Voc) (hop : o.op = .load 24 x) (hr : ∀ w, Below w0.heap.size w0 w → w.rangeAt b k (vcs s)) (hw : ∀ (ρ : Operand → Value) w, PreR ops T ρ w o.after.toList → wantV ops (slotR ρ) o = true)
    (h : ∀ (ρ : Operand → Value) w, (∀ n, (ops.toList.all fun o => o.dst != some n) = true → ρ (.tmp n) = a0.eval (.tmp n)) → PreR ops T ρ w o.after.toList → ρ x = .pointer (some ⟨b, k, none⟩) ∧ T i (dstV o (vocV s)) w) : Ob Try.prog ops Q (ClB w0) RlB T a0 i o :=
  lb_val (vocV s) hw fun ρ w hbl _ hx hp' => by
    obtain ⟨h1, h2⟩ := h ρ w hx hp'
    refine ⟨?_, h2⟩
    have hl := run_loadAt_mid (P := Try.prog) w b k 24 (vcs s) _ (hr w hbl) Try.underlying24 rfl voc_info
    unfold execOp
    simp only [hop, h1]
    simp only [Sem.run_bind, hl, Result.andThen_ok, Sem.run_pure]
end
set_option maxHeartbeats 2000000 in
theorem eq_vocs (A B : Option Addr) (m c d : Nat) (S : List Int) (fa fb : List Nat) (w : World) (ha : Ints w A (5 * m) S fa) (hb : Ints w B (5 * m) S fb) (hn : m ≤ 1000000000) :
    Calls Try.prog 38 #[.slice A m c, .slice B m d] w fun e w' => e = .returned (.bool true) ∧ Below w.heap.size w w' := by
  have HA := Lib.hid ha
  have HB := Lib.hid hb
  clear ha hb
  go_enter Try.func38, Try.ntmps38
  go_wp2_with fail
  go_loopw [5] (fun i wr => ∃ k : Nat, k ≤ m ∧ i = .int .i64 k ∧ Below w.heap.size w wr) (fun i _ => m - (intOf i).toNat)
  case atStart => exact ⟨0, by omega, rfl, Below.refl _ _⟩
  case round =>
    obtain ⟨k, hk, rfl, hbl⟩ := hrel
    have BR := Lib.hid hbl
    clear hbl
    by_cases hlt : k < m
    · obtain ⟨p, o, rfl, _, _, hc⟩ := HA.out.at_ (by omega)
      obtain ⟨q, u, rfl, _, _, hd⟩ := HB.out.at_ (by omega)
      clear hc hd
      have RA : Hid (∀ w', Below wr.heap.size wr w' → w'.rangeAt p (o + k * 5) (vcs (vocK S k))) := Lib.hid fun w' hw' => voc_range ((HA.out.below BR.out).below hw') hlt
      have RB : Hid (∀ w', Below wr.heap.size wr w' → w'.rangeAt q (u + k * 5) (vcs (vocK S k))) := Lib.hid fun w' hw' => voc_range ((HB.out.below BR.out).below hw') hlt
      generalize vocK S k = s at RA RB
      have hkm : (k : Int) < m := by omega
      have hk0 : 0 ≤ (k : Int) := by omega
      go_wp2_with fail
      refine wp_region_typed (ClB wr) RlB (Ty [TV (.slice (some ⟨p, o, none⟩) m c), TV (.int .i64 k), TV (.pointer (some ⟨p, o + k * 5, none⟩)), TV (vocV s), TV (.slice (some ⟨q, u, none⟩) m d), TV (.int .i64 k), TV (.pointer (some ⟨q, u + k * 5, none⟩)), TV (vocV s), TV (.bool true), TV (.bool false)])
        (by kernel_rfl) (by kernel_rfl) (stab_ty _ ⟨stabB_k _, stabB_k _, stabB_k _, stabB_k _, stabB_k _, stabB_k _, stabB_k _, stabB_k _, stabB_k _, stabB_k _, trivial⟩) (Below.refl _ _).drew ?_ ?_
      · refine ⟨?_, ?_, ?_, ?_, ?_, ?_, ?_, ?_, ?_, ?_, trivial⟩
        · exact lb_move (.tmp 0) (.inl rfl) (fun _ _ _ => want_none rfl) fun ρ wx hc hx hp => hx 0 rfl
        · exact lb_move (.tmp 5) (.inl rfl) (fun _ _ _ => want_none rfl) fun ρ wx hc hx hp => hx 5 rfl
        · refine lb_val (.pointer (some ⟨p, o + k * 5, none⟩)) (fun _ _ _ => want_none rfl) fun ρ wx hb hc hx hp => ⟨?_, rfl⟩
          have h0 : ρ (.tmp 17) = .slice (some ⟨p, o, none⟩) m c := hp.1 rfl
          have h1 : ρ (.tmp 18) = .int .i64 k := hp.2.1 rfl
          unfold execOp
          simp only [h0, h1]
          clear h0 h1 hx hc hp hb
          go_simp
        · exact lb_vocm (.tmp 19) p (o + k * 5) s rfl RA.out (fun _ _ _ => want_none rfl) fun ρ wx hx hp => ⟨hp.1 rfl, rfl⟩
        · exact lb_move (.tmp 1) (.inl rfl) (fun _ _ _ => want_none rfl) fun ρ wx hc hx hp => hx 1 rfl
        · exact lb_move (.tmp 5) (.inl rfl) (fun _ _ _ => want_none rfl) fun ρ wx hc hx hp => hx 5 rfl
        · refine lb_val (.pointer (some ⟨q, u + k * 5, none⟩)) (fun _ _ _ => want_none rfl) fun ρ wx hb hc hx hp => ⟨?_, rfl⟩
          have h0 : ρ (.tmp 21) = .slice (some ⟨q, u, none⟩) m d := hp.1 rfl
          have h1 : ρ (.tmp 22) = .int .i64 k := hp.2.1 rfl
          unfold execOp
          simp only [h0, h1]
          clear h0 h1 hx hc hp hb
          go_simp
        · exact lb_vocm (.tmp 23) q (u + k * 5) s rfl RB.out (fun _ _ _ => want_none rfl) fun ρ wx hx hp => ⟨hp.1 rfl, rfl⟩
        · refine lb_known _ _ _ (.bool true) (fun _ _ => by simp [go_sem]) rfl (fun _ _ _ => want_none rfl) #[vocV s, vocV s] (fun w hb => eq_voc s w) (fun ρ wx hc hx hp => ?_) (fun _ => rfl)
          have h0 : ρ (.tmp 20) = vocV s := hp.1 rfl
          have h1 : ρ (.tmp 24) = vocV s := hp.2.1 rfl
          simp only [List.map_toArray, List.map_cons, List.map_nil, h0, h1]
        · exact lb_unot (.tmp 25) _ true rfl (fun _ _ _ => want_none rfl) fun ρ wx hp => ⟨hp.1 rfl, rfl⟩
      intro vs wx hI hF
      obtain ⟨_, _, _, _, _, _, _, _, _, h9, _⟩ := hF
      replace h9 : vs 9 = .bool false := h9
      have HI : Hid (Below wr.heap.size wr wx) := hI
      simp only [putAll, Act.put, List.setIfInBounds_toArray, List.set_cons_zero, List.set_cons_succ, h9]
      clear hI h9
      have BX := Lib.hid (below_then BR.out HI.out)
      go_wp2_with fail
      go_roundw
      case rel => exact ⟨k + 1, by omega, by go_num, BX.out⟩
      case measure => simp [intOf]; omega
    · go_wp2_with fail
      go_ret
      exact ⟨rfl, BR.out⟩
/-- Cells of a block are there. -/
def Cells (w : World) (p o N : Nat) : Prop := ∀ q, q < N → ∃ v, w.cell? ⟨p, o + q, none⟩ = some v
theorem Cells.set {w : World} {p o N : Nat} (h : Cells w p o N) (a : Addr) (v : Value) : Cells (w.setCell a v) p o N := fun q hq => by
  obtain ⟨u, hu⟩ := h q hq
  by_cases e : a = ⟨p, o + q, none⟩
  · subst e; exact ⟨v, World.cell?_setCell_same' w _ v (by rw [hu]; rfl)⟩
  · refine ⟨u, Eq.trans ?_ hu⟩
    apply World.cell?_setCell_other
    exact e
/-- What marking leaves. -/
def MarkedO (n : Nat) (k : Int) (fp : List Nat) (w : World) (e : Ending) (w' : World) : Prop := e = .returned (.int .i64 (k + 5 * n)) ∧ Only fp w w'
theorem frozen_twoV {w : World} {a b : Addr} {u v : Value} (h : w.frozen? b = false) : ((w.setCell a u).frozen? b) = false := by rw [World.frozen?_setCell]; exact h
set_option maxRecDepth 100000 in
set_option maxHeartbeats 4000000 in
theorem mark_vocs (A : Option Addr) (m c : Nat) (k0 : Int) (S : List Int) (fp : List Nat) (w : World) (ha : Ints w A (5 * m) S fp) (hf : ∀ b ∈ fp, ∀ o, w.frozen? ⟨b, o, none⟩ = false) (hn : m ≤ 100000000) (h0 : 0 ≤ k0) (h1 : k0 ≤ 10000000000) :
    Calls Try.prog 39 #[.slice A m c, .int .i64 k0] w (MarkedO m k0 fp w) := by
  cases m with
  | zero =>
    clear ha
    go_enter Try.func39, Try.ntmps39
    go_wp2_with fail
    go_loopw [1, 5] (fun q i wr => i = .int .i64 0 ∧ q = .int .i64 k0 ∧ wr = w) (fun _ _ _ => 0)
    case atStart => exact ⟨rfl, rfl, rfl⟩
    case round =>
      obtain ⟨rfl, rfl, rfl⟩ := hrel
      go_wp2_with fail
      go_ret
      exact ⟨ret_int (by omega), Only.refl _ _⟩
  | succ m' =>
    obtain ⟨m, hm⟩ : ∃ m, m = m' + 1 := ⟨_, rfl⟩
    rw [← hm] at ha hn ⊢
    have hm0 : 0 < m := by omega
    clear hm
    obtain ⟨p, o, rfl, hfp, hpl, hc⟩ := ha.at_ (by omega)
    have HC : Hid (Cells w p o (5 * m)) := Lib.hid fun q hq => ⟨_, hc q (by omega)⟩
    have HG : Hid (∀ q, w.frozen? ⟨p, q, none⟩ = false) := Lib.hid fun q => hf p (by rw [hfp]; simp) q
    have HP := Lib.hid hfp
    clear ha hf hc hfp
    go_enter Try.func39, Try.ntmps39
    go_wp2_with fail
    go_loopw [1, 5] (fun q i wr => ∃ k : Nat, k ≤ m ∧ i = .int .i64 k ∧ q = .int .i64 (k0 + 5 * k) ∧ Cells wr p o (5 * m) ∧ Only fp w wr ∧ (∀ q, wr.frozen? ⟨p, q, none⟩ = false)) (fun _ i _ => m - (intOf i).toNat)
    case atStart => exact ⟨0, Nat.zero_le _, rfl, by simp, HC.out, Only.refl _ _, HG.out⟩
    case round =>
      obtain ⟨k, hk, rfl, rfl, hr, hb, hf⟩ := hrel
      have HR := Lib.hid hr
      have HB := Lib.hid hb
      have HF := Lib.hid hf
      clear hr hb hf HC HG
      by_cases hlt : k < m
      · obtain ⟨v0, c0⟩ := HR.out (5 * k + 0) (by omega)
        obtain ⟨v1, c1⟩ := HR.out (5 * k + 1) (by omega)
        obtain ⟨v2, c2⟩ := HR.out (5 * k + 2) (by omega)
        obtain ⟨v3, c3⟩ := HR.out (5 * k + 3) (by omega)
        obtain ⟨v4, c4⟩ := HR.out (5 * k + 4) (by omega)
        rw [show o + (5 * k + 0) = o + k * 5 by omega] at c0
        rw [show o + (5 * k + 1) = o + k * 5 + 1 by omega] at c1
        rw [show o + (5 * k + 2) = o + k * 5 + 2 by omega] at c2
        rw [show o + (5 * k + 3) = o + k * 5 + 3 by omega] at c3
        rw [show o + (5 * k + 4) = o + k * 5 + 4 by omega] at c4
        have g0 := HF.out (o + k * 5)
        have g1 := HF.out (o + k * 5 + 1)
        have g2 := HF.out (o + k * 5 + 2)
        have g3 := HF.out (o + k * 5 + 3)
        have g4 := HF.out (o + k * 5 + 4)
        have hkm : (k : Int) < m := by omega
        have hk0 : 0 ≤ (k : Int) := by omega
        go_wp2_with fail
        have hpf : p ∈ fp := by rw [HP.out]; simp
        go_roundw
        case rel => exact ⟨k + 1, by omega, by go_num, by go_num, ((((HR.out.set _ _).set _ _).set _ _).set _ _).set _ _, ((((HB.out.setCell (.inl hpf) _).setCell (.inl hpf) _).setCell (.inl hpf) _).setCell (.inl hpf) _).setCell (.inl hpf) _, fun q => by simp only [World.frozen?_setCell]; exact HF.out q⟩
        case measure => simp [intOf]; omega
      · obtain rfl : k = m := by omega
        go_wp2_with fail
        go_ret
        exact ⟨ret_int (by omega), HB.out⟩
end Go.Proofs.Ytfbpnneegenhgaa
