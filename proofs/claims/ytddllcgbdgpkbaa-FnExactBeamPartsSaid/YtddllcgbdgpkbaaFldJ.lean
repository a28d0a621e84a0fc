/- The laws' own functions on slices of tiles, and on backgrounds. -/
import Derived.Test.YtddllcgbdgpkbaaTypedF
import Derived.Test.YtddllcgbdgpkbaaTilS
namespace Go.Proofs.Ytddllcgbdgpkbaa
open Go.ChangeShapes Go.WideShapes Go.ChangeAt Go.RowKit
set_option linter.unusedVariables false

section
variable {ops : Array Oper} {Q : Exit → Act → World → Prop} {T : Nat → Value → World → Prop} {a0 : Act} {w0 : World} {i : Nat} {o : Oper}
/-- A tile is loaded out of the middle of a block. -/
theorem lb_tilm (x : Operand) (b k : Nat) (px : List Int) (hop : o.op = .load 74 x) (hp : px.length = 64) (hr : ∀ w, Below w0.heap.size w0 w → w.rangeAt b k (iv px)) (hw : ∀ (ρ : Operand → Value) w, PreR ops T ρ w o.after.toList → wantV ops (slotR ρ) o = true)
    (h : ∀ (ρ : Operand → Value) w, (∀ n, (ops.toList.all fun o => o.dst != some n) = true → ρ (.tmp n) = a0.eval (.tmp n)) → PreR ops T ρ w o.after.toList → ρ x = .pointer (some ⟨b, k, none⟩) ∧ T i (dstV o (tilV px)) w) : Ob Try.prog ops Q (ClB w0) RlB T a0 i o :=
  lb_val (tilV px) hw fun ρ w hbl _ hx hp' => by
    obtain ⟨h1, h2⟩ := h ρ w hx hp'
    refine ⟨?_, h2⟩
    have hl := run_loadAt_mid (P := Try.prog) w b k 74 (iv px) _ (hr w hbl) Try.underlying74 rfl (by rw [til_info]; simp [hp])
    unfold execOp
    simp only [hop, h1]
    simp only [Sem.run_bind, hl, Result.andThen_ok, Sem.run_pure]
end
section
variable {ops : Array Oper} {rest : List Oper} {o : Oper} {a : Act} {w : World} {Q : Exit → Act → World → Prop}
theorem st_loadmL (hw : Region.wanted o (yielded ops a.tmps) = true) (x : Operand) (ho : o.op = .load 94 x) (b k : Nat) (hx : a.eval x = .pointer (some ⟨b, k, none⟩)) (px : List Int) (hp : px.length = 64) (hb : w.rangeAt b k (iv px))
    (h : wpList Try.prog ops Q rest (a.put o.dst (tilV px)) w) : wpList Try.prog ops Q (o :: rest) a w :=
  wpList_step fun K hK => by
    rw [if_pos hw]
    exact wp_load_mid _ x ho b k hx (iv px) _ hb Try.underlying94 rfl (by rw [til_infoL]; simp [hp]) (hK _ _ h)
/-- A tile is stored into the middle of a row of the call's own. -/
theorem st_storem (hw : Region.wanted o (yielded ops a.tmps) = true) (x y : Operand) (ho : o.op = .store 74 x y) (g k : Nat) (hx : a.eval x = .pointer (some ⟨g, k, none⟩)) (px : List Int) (hy : a.eval y = tilV px) (hp : px.length = 64) (t : TypeId) (cur : List Int) (hb : Box w g t (iv cur)) (hfit : k + 64 ≤ cur.length) (res : List Int) (hres : cur.take k ++ px ++ cur.drop (k + 64) = res)
    (h : wpList Try.prog ops Q rest (a.put o.dst undef) (w.setRow g (iv res).toArray)) : wpList Try.prog ops Q (o :: rest) a w :=
  wpList_step fun K hK => by
    rw [if_pos hw]
    have hst := run_storeCells_at Try.prog g k t (iv px) 0 (iv cur).toArray w hb (by simp [hp]; omega) (iv_one px)
    have e : ((iv cur).toArray.toList.take (k + 0) ++ iv px ++ (iv cur).toArray.toList.drop (k + 0 + (iv px).length)).toArray = (iv res).toArray := by
      rw [← hres]
      simp [hp, List.map_append, List.map_take, List.map_drop]
    rw [e] at hst
    have hsv : (storeVar 74 ⟨g, k, none⟩ (tilV px)).run Try.prog w = .ok () (w.setRow g (iv res).toArray) := by
      have hi := til_info
      cases hq : Try.prog.info? 74 with
      | none => simp [hq] at hi
      | some i =>
        have hs : i.size = 64 := by simpa [hq] using hi
        have hcs : (iv px).toArray.size = i.size := by simp [hp, hs]
        simp [storeVar, sizeOf, typeInfo, hq, Value.cells, hp, hs, hst]
    unfold Oper.wp execOp
    simp only [ho, hx, hy, Instr.storeAt, Instr.sureAddr, Sem.run_bind, Sem.run_pure, Result.andThen_ok, hsv]
    exact hK _ _ h
end
/-- A row of m tiles of which k stand. -/
def tkZ (zs : List Int) (k m : Nat) : List Int := zs.take (64 * k) ++ List.replicate (64 * m - 64 * k) 0
theorem tkZ_len {zs : List Int} {k m : Nat} (h : zs.length = 64 * m) (hk : k ≤ m) : (tkZ zs k m).length = 64 * m := by
  unfold tkZ; rw [List.length_append, List.length_take, List.length_replicate]; omega
theorem tkZ_all {zs : List Int} {m : Nat} (h : zs.length = 64 * m) : tkZ zs m m = zs := by
  unfold tkZ; rw [Nat.sub_self, List.replicate_zero, List.append_nil, List.take_of_length_le (by omega)]
theorem tkZ_step {zs : List Int} {k m : Nat} (h : zs.length = 64 * m) (hk : k < m) : (tkZ zs k m).take (k * 64) ++ tl zs k ++ (tkZ zs k m).drop (k * 64 + 64) = tkZ zs (k + 1) m := by
  have l1 : (zs.take (64 * k)).length = k * 64 := by rw [List.length_take]; omega
  have e1 : (tkZ zs k m).take (k * 64) = zs.take (64 * k) := by
    unfold tkZ
    rw [← l1, List.take_left]
  have e2 : (tkZ zs k m).drop (k * 64 + 64) = List.replicate (64 * m - 64 * (k + 1)) 0 := by
    unfold tkZ
    rw [← List.drop_drop, ← l1, List.drop_left, List.drop_replicate]
    congr 1
  rw [e1, e2]
  unfold tkZ tl
  congr 1
  rw [show 64 * (k + 1) = 64 * k + 64 by omega, List.take_add]
theorem rep_at (n q : Nat) (v : Value) (h : q < n) : (List.replicate n v).toArray[q]! = v := by simp [h]
theorem made_tiles (n : Nat) : madeCells (Value.agg (iv z64).toArray).cells (n * 64) = (iv (List.replicate (64 * n) 0)).toArray := by
  apply Array.ext
  · rw [size_madeCells]; simp; omega
  · intro j h1 h2
    simp only [madeCells, Value.cells, Array.getElem_map, Array.getElem_range]
    have h3 : j % (iv z64).toArray.size < 64 := by
      have : (iv z64).toArray.size = 64 := by simp [z64_len]
      rw [this]; omega
    generalize j % (iv z64).toArray.size = q at h3
    have h4 : (iv z64).toArray[q]! = .int .i64 0 := by
      simp only [iv, z64, List.map_replicate]
      exact rep_at 64 q _ h3
    rw [h4]
    simp
theorem run_make_tiles (n : Nat) (hn : n ≤ 1000000000) (w : World) : (Instr.makeSlice 31 (.int .i64 (n : Int)) (.int .i64 (n : Int))).run Try.prog w = .ok (.slice (some ⟨w.heap.size, 0, none⟩) n n) (w.alloc (.cells (iv (tkZ [] 0 n)).toArray 74)) := by
  obtain ⟨i, hi, hz, hs, hb⟩ := tile_parts
  have hr := run_make (P := Try.prog) w 31 74 i (.agg (iv z64).toArray) Try.underlying31 hi hz .i64 .i64 n n (by omega) (Int.le_refl _) (by rw [hb]; omega) (by omega)
  rw [hs] at hr
  simp only [Int.toNat_natCast, made_tiles] at hr
  rw [hr]
  rfl
set_option maxHeartbeats 2000000 in
theorem to_tiles (A : Option Addr) (m c : Nat) (zs : List Int) (fa : List Nat) (w : World) (ha : Ints w A (64 * m) zs fa) (hn : m ≤ 1000000000) :
    Calls Try.prog 55 #[.slice A m c] w (CopiedT zs m w) := by
  have HA := Lib.hid ha
  have HZ := Lib.hid ha.1
  clear ha
  have hmk := run_make_tiles m hn
  have h00 : Hid (tkZ [] 0 m = tkZ zs 0 m) := Lib.hid (by simp [tkZ])
  go_enter Try.func55, Try.ntmps55
  go_wp2_with fail
  obtain ⟨w1, hw1⟩ : ∃ w1, w1 = w.alloc (.cells (iv (tkZ [] 0 m)).toArray 74) := ⟨_, rfl⟩
  have Y1 : Hid (Box w1 w.heap.size 74 (iv (tkZ zs 0 m))) := by rw [hw1, h00.out]; exact Box.new _ _ _
  have B1 : Hid (Below w.heap.size w w1) := by rw [hw1]; exact below1 w _
  rw [← hw1]
  clear hw1 hmk
  go_loopw [4] (fun i wr => ∃ k : Nat, k ≤ m ∧ i = .int .i64 k ∧ Box wr w.heap.size 74 (iv (tkZ zs k m)) ∧ Below w.heap.size w wr) (fun i _ => m - (intOf i).toNat)
  case atStart => exact ⟨0, by omega, rfl, Y1.out, B1.out⟩
  case round =>
    obtain ⟨k, hk, rfl, hy, hb⟩ := hrel
    have YR := Lib.hid hy
    have BR := Lib.hid hb
    clear hy hb Y1 B1
    by_cases hlt : k < m
    · obtain ⟨p, o, rfl, _, _, hc⟩ := HA.out.at_ (by omega)
      clear hc
      have RG := Lib.hid (til_range (HA.out.below BR.out) hlt)
      have h64 := Lib.hid (tl_len HZ.out hlt)
      have HST := Lib.hid (tkZ_step HZ.out hlt)
      have HTL := Lib.hid (tkZ_len HZ.out hk)
      generalize tl zs k = px at RG h64 HST
      go_wp2_with (first | (refine st_loadmL (by rfl) _ rfl _ _ rfl px h64.out RG.out ?_))
      refine (to_til px h64.out _).mono ?_; rintro e w2 ⟨rfl, b2⟩
      have Y2 := Lib.hid (YR.out.below b2)
      have B2 := Lib.hid (below_then BR.out b2)
      clear b2
      go_wp2_with (first | (refine st_storem (by rfl) _ _ rfl w.heap.size (k * 64) rfl px rfl h64.out _ (tkZ zs k m) Y2.out (by rw [HTL.out]; omega) (tkZ zs (k + 1) m) HST.out ?_))
      go_roundw
      case rel => exact ⟨k + 1, by omega, by go_num, Box.row Y2.out, below_row B2.out (Nat.le_refl _) _⟩
      case measure => simp [intOf]; omega
    · obtain rfl : k = m := by omega
      have HAL := Lib.hid (tkZ_all HZ.out)
      go_wp2_with fail
      go_ret
      have YF := YR.out
      rw [HAL.out] at YF
      refine ⟨_, _, if k = 0 then [] else [w.heap.size], rfl, Nat.le_refl _, ⟨HZ.out, ?_⟩, ?_, BR.out⟩
      · by_cases h0 : k = 0
        · exact .inl ⟨by omega, if_pos h0⟩
        · exact .inr ⟨by omega, w.heap.size, 0, rfl, if_neg h0, YF.lt, fun i hi => by rw [Nat.zero_add, YF.cell i]; exact iv_at zs i (by rw [HZ.out]; exact hi)⟩
      · by_cases h0 : k = 0
        · rw [if_pos h0]; exact .nil _ _
        · rw [if_neg h0]; exact .one (Nat.le_refl _) YF.lt YF.frozen
end Go.Proofs.Ytddllcgbdgpkbaa
