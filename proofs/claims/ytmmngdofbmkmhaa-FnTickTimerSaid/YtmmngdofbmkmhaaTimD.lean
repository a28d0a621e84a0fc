/- A drawn timer. -/
import Derived.Test.YtmmngdofbmkmhaaTypedK
import Derived.Test.YtmmngdofbmkmhaaTypedE
import Derived.Deep.DeepCutAuto
namespace Go.Proofs.Ytmmngdofbmkmhaa
open Go.ChangeShapes Go.WideShapes Go.ChangeAt Go.RowKit
set_option linter.unusedVariables false

/-- A new variable of a struct's type t with the cells cs, in a block from L on. -/
def TVar (L : Nat) (t : TypeId) (cs : List Value) : Value → World → Prop := fun v w => ∃ b, v = .pointer (some ⟨b, 0, none⟩) ∧ L ≤ b ∧ Box w b t cs
theorem stab_tvar {S : List Nat} {D : World → Prop} {L : Nat} {t : TypeId} {cs : List Value} (hS : ∀ b ∈ S, b < L) : Stab (Rel S D) (TVar L t cs) := by
  rintro _ w w' hR ⟨b, hv, hL, hb⟩
  exact ⟨b, hv, hL, hb.only hR.only fun hx => by have := hS b hx; omega⟩
/-- A timer of which Reload and Fired are laid. -/
def TClock : Value → World → Prop := fun v _ => ∃ r f : Int, v = .agg #[.int .i64 0, .int .i64 r, .int .i64 f] ∧ 0 ≤ r ∧ r ≤ 1000 ∧ 0 ≤ f ∧ f ≤ 8
theorem stab_tclock {S : List Nat} {D : World → Prop} : Stab (Rel S D) TClock := fun _ _ _ _ h => h
section
variable {ops : Array Oper} {Q : Exit → Act → World → Prop} {T : Nat → Value → World → Prop} {a0 : Act} {S : List Nat} {q m : Nat} {w0 : World} {J D : World → Prop} {i : Nat} {o : Oper}
/-- A variable is made. -/
theorem ob_var {t : TypeId} {cs : List Value} (hg : o.guard = none) (hq : q ∈ S) (hJ : Kept q J) (hD : Kept q D)
    (hrun : ∀ (ρ : Operand → Value) w, (execOp ρ o).run Try.prog w = .ok (.value (.pointer (some ⟨w.heap.size, 0, none⟩))) (w.alloc (.cells cs.toArray t)))
    (hT : ∀ v w, TVar w0.heap.size t cs v w → T i (dstV o v) w) :
    Ob Try.prog ops Q (Cls S q m w0 J) (Rel S D) T a0 i o :=
  ob_only hg hq hJ hD fun ρ k w _ hI _ _ _ _ => by
    rw [hrun ρ w]
    exact ⟨(Only.refl _ _).alloc _, (hI.rd.mono (by omega)).alloc _, hT _ _ ⟨_, rfl, hI.only.size, Box.new w _ _⟩⟩
/-- An operation that yields a value of which this is known and leaves the world alone. -/
theorem ob_some (hg : o.guard = none) (hq : q ∈ S) (hJ : Kept q J) (hD : Kept q D)
    (h : ∀ (ρ : Operand → Value) k w, Cls S q m w0 J k w → (∀ v, ρ (.const v) = v) → (∀ n, (ops.toList.all fun o => o.dst != some n) = true → ρ (.tmp n) = a0.eval (.tmp n)) → PreR ops T ρ w o.after.toList →
      ∃ v, (execOp ρ o).run Try.prog w = .ok (.value v) w ∧ T i (dstV o v) w) :
    Ob Try.prog ops Q (Cls S q m w0 J) (Rel S D) T a0 i o :=
  ob_only hg hq hJ hD fun ρ k w _ hI hc _ hx hp => by
    obtain ⟨v, e, ht⟩ := h ρ k w hI hc hx hp
    rw [e]
    exact ⟨Only.refl _ _, hI.rd.mono (by omega), ht⟩
end
/-- A typed region whose last operation, a store, waits for all others: what it does is said as an equation. -/
theorem wp_region_end {P : Program} {id : Nat} {Q : Exit → Act → World → Prop} {a0 : Act} {w : World} {l l0 : List Oper} {oL : Oper} (h0 : l.dropLast = l0) (h1 : l.getLast? = some oL) (I : Nat → World → Prop) (R : World → World → Prop) (T : Nat → Value → World → Prop)
    (hw : waitsB oL l0.length = true) (hm : P.follows .mixedOrders = true) (hB : okB l.toArray a0.tmps.size = true) (hT : ∀ i v w w', R w w' → T i v w → T i v w') (hI : I 0 w.drew)
    (hst : Obs P l.toArray Q I R T a0 0 l0) (hend : ∀ vs w, I l0.length w → Facts T vs w 0 l0 → ∃ w', (execOp (putAll a0 l0 0 vs).eval oL).run P w = .ok .skip w' ∧ Q .normal (putAll a0 l0 0 vs) w') : (Code.region id l.toArray true).wp P Q a0 w := by
  subst h0
  have hd : oL.dst = none := by
    unfold waitsB at hw
    simp only [Bool.and_eq_true] at hw
    simpa using hw.1.2
  refine wp_region_last oL I R T ?_ hw hm hB hT hI hst fun vs w' hI' hF' => ?_
  · rw [List.getLast?_eq_some_iff] at h1
    obtain ⟨ys, rfl⟩ := h1
    simp
  · obtain ⟨w2, he, hk⟩ := hend vs w' hI' hF'
    generalize putAll a0 l.dropLast 0 vs = a at he hk
    have h2 : oL.wp P a w' (fun a' w'' => ∃ v, a' = a.put oL.dst v ∧ w'' = w2) Q := by
      unfold Oper.wp
      refine upon_of_T (K := fun _ w'' => w'' = w2) ?_
      rw [he]
      rfl
    refine Oper.wp_mono (fun a' w'' ⟨v, g1, g2⟩ => ?_) h2
    subst g1 g2
    rw [hd]
    exact hk
theorem facts_at {T : Nat → Value → World → Prop} {vs : Nat → Value} {w : World} : ∀ (l : List Oper) (k i : Nat), i < l.length → Facts T vs w k l → T (k + i) (vs (k + i)) w
  | [], _, _, h, _ => by simp at h
  | o :: r, k, 0, _, h => h.1
  | o :: r, k, i + 1, h, hF => by
    have := facts_at r (k + 1) i (by simpa using h) hF.2
    rwa [show k + 1 + i = k + (i + 1) by omega] at this
theorem lit_at2 {w w' : World} {q : Nat} {cs : Array Value} {T : TypeId} {i : Nat} {v : Value} (hs : Sole q (w.alloc (.cells cs T)) w') (hq : q < w.heap.size) (hv : cs[i]? = some v) : w'.cell? ⟨w.heap.size, i, none⟩ = some v := by
  rw [World.cell?_of_block (a := ⟨w.heap.size, i, none⟩) (w := w.alloc (.cells cs T)) (hs.block w.heap.size (by simp) (by omega)), World.cell?_alloc_new]; exact hv
theorem pick_two (v : Int) (d0 : 0 ≤ v) (d1 : v < 2) : ∃ u : Int, (#[Value.int .i64 (-1), .int .i64 1001] : Array Value)[v.toNat]? = some (.int .i64 u) ∧ -1 ≤ u ∧ u ≤ 1001 := by
  have h : v = 0 ∨ v = 1 := by omega
  rcases h with rfl | rfl <;> exact ⟨_, rfl, by omega, by omega⟩
/-- What drawing a timer leaves. -/
def TimDrawn (q m : Nat) (w : World) (e : Ending) (w' : World) : Prop := ∃ l r f : Int, e = .returned (.agg #[.int .i64 l, .int .i64 r, .int .i64 f]) ∧ (-1 ≤ l ∧ l ≤ 1001) ∧ (-1 ≤ r ∧ r ≤ 1001) ∧ (-1 ≤ f ∧ f ≤ 8) ∧ Only [q] w w' ∧ Rd w' q (m + 40)
theorem tim_end {w wx : World} {q m c : Nat} {l r f : Int} (ho : Only [q] w wx) (hr : Rd wx q c) (hc : c ≤ m + 40) (hq : q < w.heap.size) (l0 : -1 ≤ l ∧ l ≤ 1001) (r0 : -1 ≤ r ∧ r ≤ 1001) (f0 : -1 ≤ f ∧ f ≤ 8) :
    TimDrawn q m w (.returned (.agg #[.int .i64 l, .int .i64 r, .int .i64 f])) (((wx.setCell ⟨w.heap.size, 0, none⟩ (.int .i64 l)).setCell ⟨w.heap.size, 1, none⟩ (.int .i64 r)).setCell ⟨w.heap.size, 2, none⟩ (.int .i64 f)) :=
  ⟨l, r, f, rfl, l0, r0, f0, ((ho.setCell (.inr (Nat.le_refl _)) _).setCell (.inr (Nat.le_refl _)) _).setCell (.inr (Nat.le_refl _)) _, (((hr.far hq _).far hq _).far hq _).mono hc⟩
set_option maxRecDepth 100000 in
set_option maxHeartbeats 4000000 in
theorem timer_any (q m : Nat) (n : Int) (w : World) (h : Rd w q m) (hm : m ≤ 100000) (hn : 1 ≤ n) (hn2 : n ≤ 1000) : Calls Try.prog 27 #[.pointer (some ⟨q, 0, none⟩), .int .i64 n] w (TimDrawn q m w) := by
  have hq := h.lt
  obtain ⟨w1, hw1⟩ : ∃ w1, w1 = w.alloc (.cells #[.int .i64 0, .int .i64 0, .int .i64 0] 24) := ⟨_, rfl⟩
  have R1 : Hid (Rd w1 q m) := by rw [hw1]; exact h.alloc _
  have X1 : Hid (Box w1 w.heap.size 24 [.int .i64 0, .int .i64 0, .int .i64 0]) := by rw [hw1]; exact Box.new w _ _
  have O1 : Hid (Only [q] w w1) := by rw [hw1]; exact (Only.refl _ w).alloc _
  have z1 : w.heap.size < w1.heap.size := X1.out.lt
  clear h
  go_enter Try.func27, Try.ntmps27
  go_wp2_with fail
  rw [← hw1]
  clear hw1
  have hqS : q ∈ [q] := by simp
  have hS1 : ∀ b ∈ [q], b < w1.heap.size := by simp; omega
  have hJ : Kept q (fun _ => True) := fun _ _ _ _ => trivial
  refine wp_region_end (by dsimp only [List.dropLast]) rfl (Cls [q] q m w1 fun _ => True) (Rel [q] fun _ => True)
    (Ty [TV (.pointer (some ⟨q, 0, none⟩)), TI 0 39, TL [q] 4 0 1000, TV (.pointer (some ⟨q, 0, none⟩)), TI 0 3, TP [q] 0 1000, TI 0 1000, TV (.pointer (some ⟨q, 0, none⟩)), TI 0 8, TClock, TVar w1.heap.size 24 [.int .i64 0, .int .i64 0, .int .i64 0]])
    (by kernel_rfl) (by kernel_rfl) (by kernel_rfl) (stab_ty _ ⟨stab_tv _, stab_ti _ _, stab_tl _ _ _, stab_tv _, stab_ti _ _, stab_tp _ _, stab_ti _ _, stab_tv _, stab_ti _ _, stab_tclock, stab_tvar hS1, trivial⟩)
    ⟨(Only.refl _ w1).trans (.of_below (Below.refl _ _).drew), R1.out.stay (Below.refl _ _).drew, trivial⟩ ?_ ?_
  · refine ⟨?_, ?_, ?_, ?_, ?_, ?_, ?_, ?_, ?_, ?_, ?_, trivial⟩
    · exact ob_move rfl (.tmp 0) (.inl rfl) hqS hJ hJ fun ρ wx _ hx _ => hx 0 rfl
    · exact ob_pick rfl (.tmp 6) 40 _ rfl hqS hJ hJ (by simp; omega) (by omega) (by omega) (fun ρ wx hp => hp.1 rfl) (fun _ _ h => h)
    · refine ob_build rfl 4 (0) 1000 hqS hJ hJ hS1 (fun ρ wx hc hx hp => ?_) (fun _ _ h => h)
      obtain ⟨z, hz, z0, z1⟩ : TI 0 39 (ρ (.tmp 7)) wx := hp.1 rfl
      refine ⟨#[.int .i64 (0), .int .i64 (1), .int .i64 (z), .int .i64 (1000)], ?_, ?_⟩
      · unfold execOp
        simp only [List.map_toArray, List.map_cons, List.map_nil, hc, hz]
        clear hx hp hc
        go_simp
      · intro j hj
        have h : j = 0 ∨ j = 1 ∨ j = 2 ∨ j = 3 := by omega
        rcases h with rfl | rfl | rfl | rfl <;> exact ⟨_, rfl, by omega, by omega⟩
    · exact ob_move rfl (.tmp 0) (.inl rfl) hqS hJ hJ fun ρ wx _ hx _ => hx 0 rfl
    · exact ob_pick rfl (.tmp 9) 4 _ rfl hqS hJ hJ (by simp; omega) (by omega) (by omega) (fun ρ wx hp => hp.1 rfl) (fun _ _ h => h)
    · exact ob_index rfl (.tmp 8) (.tmp 10) 4 (0) 1000 rfl hqS hJ hJ (fun ρ wx hp => ⟨hp.1 rfl, hp.2.1 rfl⟩) (fun _ _ h => h)
    · exact ob_load rfl (.tmp 11) (0) 1000 rfl hqS hJ hJ (fun ρ wx hp => hp.1 rfl) (fun _ _ h => h)
    · exact ob_move rfl (.tmp 0) (.inl rfl) hqS hJ hJ fun ρ wx _ hx _ => hx 0 rfl
    · exact ob_pick rfl (.tmp 13) 9 _ rfl hqS hJ hJ (by simp; omega) (by omega) (by omega) (fun ρ wx hp => hp.1 rfl) (fun _ _ h => h)
    · refine ob_some rfl hqS hJ hJ fun ρ kk wx hI hc hx hp => ?_
      obtain ⟨r, hr, r0, r1⟩ : TI 0 1000 (ρ (.tmp 12)) wx := hp.1 rfl
      obtain ⟨f, hf, f0, f1⟩ : TI 0 8 (ρ (.tmp 14)) wx := hp.2.1 rfl
      refine ⟨.agg #[.int .i64 0, .int .i64 r, .int .i64 f], ?_, r, f, rfl, r0, r1, f0, f1⟩
      unfold execOp
      simp only [List.map_toArray, List.map_cons, List.map_nil, hr, hf]
      clear hr hf hx hp hc hI
      go_simp
    · refine ob_var rfl hqS hJ hJ (fun ρ wx => ?_) (fun _ _ h => h)
      unfold execOp
      go_simp
  · intro vs wx hI hF
    obtain ⟨_, _, _, _, _, _, _, _, _, ⟨r, f, h9, r0, r1, f0, f1⟩, ⟨b, h10, hL, hb⟩, _⟩ := hF
    have H2 := Lib.hid (And.intro hI.only hI.rd)
    have BX := Lib.hid hb
    replace h9 : vs 9 = .agg #[.int .i64 0, .int .i64 r, .int .i64 f] := h9
    replace h10 : vs 10 = .pointer (some ⟨b, 0, none⟩) := h10
    simp only [putAll, Act.put, List.setIfInBounds_toArray, List.set_cons_zero, List.set_cons_succ, h9, h10]
    have c0 := hb.cell 0
    have c1 := hb.cell 1
    have c2 := hb.cell 2
    have e0 := hb.frozen 0
    have e1 := hb.frozen 1
    have e2 := hb.frozen 2
    clear hI hb h9 h10
    refine ⟨((wx.setCell ⟨b, 0, none⟩ (.int .i64 0)).setCell ⟨b, 1, none⟩ (.int .i64 r)).setCell ⟨b, 2, none⟩ (.int .i64 f), ?_, ?_⟩
    · unfold execOp
      go_simp
    have BX3 : Hid (Box (((wx.setCell ⟨b, 0, none⟩ (.int .i64 0)).setCell ⟨b, 1, none⟩ (.int .i64 r)).setCell ⟨b, 2, none⟩ (.int .i64 f)) b 24 [.int .i64 0, .int .i64 r, .int .i64 f]) := ((BX.out.set 0 _).set 1 _).set 2 _
    have O3 : Hid (Only [q] w1 (((wx.setCell ⟨b, 0, none⟩ (.int .i64 0)).setCell ⟨b, 1, none⟩ (.int .i64 r)).setCell ⟨b, 2, none⟩ (.int .i64 f))) := ((H2.out.1.setCell (.inr hL) _).setCell (.inr hL) _).setCell (.inr hL) _
    have R3 : Hid (Rd (((wx.setCell ⟨b, 0, none⟩ (.int .i64 0)).setCell ⟨b, 1, none⟩ (.int .i64 r)).setCell ⟨b, 2, none⟩ (.int .i64 f)) q (m + 11)) := ((H2.out.2.far (by omega) _).far (by omega) _).far (by omega) _
    generalize ((wx.setCell ⟨b, 0, none⟩ (.int .i64 0)).setCell ⟨b, 1, none⟩ (.int .i64 r)).setCell ⟨b, 2, none⟩ (.int .i64 f) = w3 at BX3 O3 R3
    have zb : b < w3.heap.size := BX3.out.lt
    have zq : q < w3.heap.size := R3.out.lt
    have hbq : b ∉ [q] := by simp; omega
    have hS3 : ∀ x ∈ [q], x < w3.heap.size := by simp; omega
    clear H2 BX c0 c1 c2 e0 e1 e2
    go_wp2_with fail
    refine wp_region_end (by dsimp only [List.dropLast]) rfl (Cls [q] q (m + 11) w3 fun _ => True) (Rel [q] fun _ => True)
      (Ty [TV (.pointer (some ⟨q, 0, none⟩)), TI 0 39, TV (.pointer (some ⟨b, 1, none⟩)), TV (.int .i64 r), TL [q] 3 0 1000, TV (.pointer (some ⟨q, 0, none⟩)), TI 0 2, TP [q] 0 1000, TI 0 1000, TV (.pointer (some ⟨b, 0, none⟩))])
      (by kernel_rfl) (by kernel_rfl) (by kernel_rfl) (stab_ty _ ⟨stab_tv _, stab_ti _ _, stab_tv _, stab_tv _, stab_tl _ _ _, stab_tv _, stab_ti _ _, stab_tp _ _, stab_ti _ _, stab_tv _, trivial⟩)
      ⟨(Only.refl _ w3).trans (.of_below (Below.refl _ _).drew), R3.out.stay (Below.refl _ _).drew, trivial⟩ ?_ ?_
    · refine ⟨?_, ?_, ?_, ?_, ?_, ?_, ?_, ?_, ?_, ?_, trivial⟩
      · exact ob_move rfl (.tmp 0) (.inl rfl) hqS hJ hJ fun ρ wx _ hx _ => hx 0 rfl
      · exact ob_pick rfl (.tmp 16) 40 _ rfl hqS hJ hJ (by simp; omega) (by omega) (by omega) (fun ρ wx hp => hp.1 rfl) (fun _ _ h => h)
      · refine ob_val rfl (.pointer (some ⟨b, 1, none⟩)) hqS hJ hJ fun ρ kk wx' hI hc hx _ => ⟨?_, rfl⟩
        have e5 : ρ (.tmp 5) = .pointer (some ⟨b, 0, none⟩) := hx 5 rfl
        unfold execOp
        simp only [e5]
        clear e5 hx hc hI
        go_simp
      · refine ob_val rfl (.int .i64 r) hqS hJ hJ fun ρ kk wx' hI hc hx hp => ⟨?_, rfl⟩
        have e18 : ρ (.tmp 18) = .pointer (some ⟨b, 1, none⟩) := hp.1 rfl
        have c1 : wx'.cell? ⟨b, 1, none⟩ = some (.int .i64 r) := (BX3.out.only hI.only hbq).cell 1
        unfold execOp
        simp only [e18]
        clear e18 hx hc hI hp
        go_simp
      · refine ob_build rfl 3 (0) 1000 hqS hJ hJ hS3 (fun ρ wx hc hx hp => ?_) (fun _ _ h => h)
        obtain ⟨z, hz, z0, z1'⟩ : TI 0 39 (ρ (.tmp 17)) wx := hp.1 rfl
        have e19 : ρ (.tmp 19) = .int .i64 r := hp.2.1 rfl
        refine ⟨#[.int .i64 (0), .int .i64 (z), .int .i64 (r)], ?_, ?_⟩
        · unfold execOp
          simp only [List.map_toArray, List.map_cons, List.map_nil, hc, hz, e19]
          clear hx hp hc
          go_simp
        · intro j hj
          have h : j = 0 ∨ j = 1 ∨ j = 2 := by omega
          rcases h with rfl | rfl | rfl <;> exact ⟨_, rfl, by omega, by omega⟩
      · exact ob_move rfl (.tmp 0) (.inl rfl) hqS hJ hJ fun ρ wx _ hx _ => hx 0 rfl
      · exact ob_pick rfl (.tmp 21) 3 _ rfl hqS hJ hJ (by simp; omega) (by omega) (by omega) (fun ρ wx hp => hp.1 rfl) (fun _ _ h => h)
      · exact ob_index rfl (.tmp 20) (.tmp 22) 3 (0) 1000 rfl hqS hJ hJ (fun ρ wx hp => ⟨hp.1 rfl, hp.2.1 rfl⟩) (fun _ _ h => h)
      · exact ob_load rfl (.tmp 23) (0) 1000 rfl hqS hJ hJ (fun ρ wx hp => hp.1 rfl) (fun _ _ h => h)
      · refine ob_val rfl (.pointer (some ⟨b, 0, none⟩)) hqS hJ hJ fun ρ kk wx' hI hc hx _ => ⟨?_, rfl⟩
        have e5 : ρ (.tmp 5) = .pointer (some ⟨b, 0, none⟩) := hx 5 rfl
        unfold execOp
        simp only [e5]
        clear e5 hx hc hI
        go_simp
    · intro vs wx hI hF
      obtain ⟨_, _, _, _, _, _, _, _, ⟨l, h8, l0, l1⟩, h9, _⟩ := hF
      have H2 := Lib.hid (And.intro hI.only hI.rd)
      have BX := Lib.hid (BX3.out.only hI.only hbq)
      replace h8 : vs 8 = .int .i64 l := h8
      replace h9 : vs 9 = .pointer (some ⟨b, 0, none⟩) := h9
      simp only [putAll, Act.put, List.setIfInBounds_toArray, List.set_cons_zero, List.set_cons_succ, h8, h9]
      have c0 := BX.out.cell 0
      have e0 := BX.out.frozen 0
      clear hI h8 h9
      refine ⟨wx.setCell ⟨b, 0, none⟩ (.int .i64 l), ?_, ?_⟩
      · unfold execOp
        go_simp
      have BX4 : Hid (Box (wx.setCell ⟨b, 0, none⟩ (.int .i64 l)) b 24 [.int .i64 l, .int .i64 r, .int .i64 f]) := BX.out.set 0 _
      have O4' : Hid (Only [q] w1 (wx.setCell ⟨b, 0, none⟩ (.int .i64 l))) := (O3.out.trans H2.out.1).setCell (.inr hL) _
      have R4 : Hid (Rd (wx.setCell ⟨b, 0, none⟩ (.int .i64 l)) q (m + 21)) := (H2.out.2.mono (by simp)).far (by omega) _
      generalize wx.setCell ⟨b, 0, none⟩ (.int .i64 l) = w4 at BX4 O4' R4
      have X4 := Lib.hid (X1.out.only O4'.out (by simp; omega))
      have O4 := Lib.hid (O1.out.trans O4'.out)
      have zb4 : b < w4.heap.size := BX4.out.lt
      have zq4 : q < w4.heap.size := R4.out.lt
      clear c0 e0 BX H2 BX3 O3 R3 O4' hJ
      go_wp2_with fail
      refine (odd_any q _ n _ R4.out (by omega) hn (by omega)).mono ?_
      rintro e w5 ⟨bb, rfl, s5, r5⟩
      have BX5 := Lib.hid (BX4.out.only s5.only hbq)
      have X5 := Lib.hid (X4.out.only s5.only (by simp; omega))
      have O5 := Lib.hid (O4.out.trans s5.only)
      have R5 := Lib.hid r5
      clear s5 r5 BX4 X4 O4 R4
      cases bb
      · have c0 : w5.cell? ⟨b, 0, none⟩ = some (.int .i64 l) := BX5.out.cell 0
        have c1 : w5.cell? ⟨b, 1, none⟩ = some (.int .i64 r) := BX5.out.cell 1
        have c2 : w5.cell? ⟨b, 2, none⟩ = some (.int .i64 f) := BX5.out.cell 2
        have e0 : w5.cell? ⟨w.heap.size, 0, none⟩ = some (.int .i64 0) := X5.out.cell 0
        have e1 : w5.cell? ⟨w.heap.size, 1, none⟩ = some (.int .i64 0) := X5.out.cell 1
        have e2 : w5.cell? ⟨w.heap.size, 2, none⟩ = some (.int .i64 0) := X5.out.cell 2
        have g0 := X5.out.frozen 0
        have g1 := X5.out.frozen 1
        have g2 := X5.out.frozen 2
        go_wp2_with fail
        refine bodyPost_ret (v := .agg #[.int .i64 l, .int .i64 r, .int .i64 f]) (by simp [results, Try.results27, go_sem, e0, e1, e2]) rfl ?_
        exact tim_end O5.out R5.out (by omega) hq (by omega) (by omega) (by omega)
      · go_wp2_with fail
        refine (pick_any q _ 3 _ R5.out (by omega) (by omega) (by omega)).mono ?_
        rintro e w6 ⟨sw, sw0, sw1, rfl, s6, r6⟩
        have BX6 := Lib.hid (BX5.out.only s6.only hbq)
        have X6 := Lib.hid (X5.out.only s6.only (by simp; omega))
        have O6 := Lib.hid (O5.out.trans s6.only)
        have R6 := Lib.hid r6
        have zb6 : b < w6.heap.size := BX6.out.lt
        have zq6 : q < w6.heap.size := R6.out.lt
        clear s6 r6 BX5 X5 O5 R5
        have hsw : sw = 0 ∨ sw = 1 ∨ sw = 2 := by omega
        rcases hsw with rfl | rfl | rfl
        · clear sw0 sw1
          go_wp2_with fail
          refine (pick_any q _ 2 _ (R6.out.alloc _) (by omega) (by omega) (by omega)).mono ?_
          rintro e w7 ⟨v, v0, v1, rfl, s7, r7⟩
          obtain ⟨u, hu, u0, u1⟩ := pick_two v v0 v1
          have cu := lit_at2 s7 zq6 hu
          have BX7 := Lib.hid ((BX6.out.alloc _).only s7.only hbq)
          have X7 := Lib.hid ((X6.out.alloc _).only s7.only (by simp; omega))
          have O7 := Lib.hid ((O6.out.alloc _).trans s7.only)
          have R7 := Lib.hid r7
          clear s7 r7 BX6 X6 O6 R6
          have k0 := BX7.out.cell 0
          have k1 := BX7.out.frozen 0
          have vn : v < ((2 : Nat) : Int) := by omega
          go_upto_region 10 with (fail)
          have BX8 : Hid (Box (w7.setCell ⟨b, 0, none⟩ (.int .i64 u)) b 24 [.int .i64 u, .int .i64 r, .int .i64 f]) := BX7.out.set 0 _
          have X8 := Lib.hid (X7.out.far (b' := b) (i := 0) (by omega) (.int .i64 u))
          have O8 := Lib.hid (O7.out.setCell (q := b) (j := 0) (.inr (by omega)) (.int .i64 u))
          have R8 := Lib.hid (R7.out.far (b := b) (i := 0) (by omega) (.int .i64 u))
          generalize w7.setCell ⟨b, 0, none⟩ (.int .i64 u) = w8 at BX8 X8 O8 R8 ⊢
          clear k0 k1 cu BX7 X7 O7 R7
          have c0 : w8.cell? ⟨b, 0, none⟩ = some (.int .i64 u) := BX8.out.cell 0
          have c1 : w8.cell? ⟨b, 1, none⟩ = some (.int .i64 r) := BX8.out.cell 1
          have c2 : w8.cell? ⟨b, 2, none⟩ = some (.int .i64 f) := BX8.out.cell 2
          have e0 : w8.cell? ⟨w.heap.size, 0, none⟩ = some (.int .i64 0) := X8.out.cell 0
          have e1 : w8.cell? ⟨w.heap.size, 1, none⟩ = some (.int .i64 0) := X8.out.cell 1
          have e2 : w8.cell? ⟨w.heap.size, 2, none⟩ = some (.int .i64 0) := X8.out.cell 2
          have g0 := X8.out.frozen 0
          have g1 := X8.out.frozen 1
          have g2 := X8.out.frozen 2
          go_wp2_with fail
          refine bodyPost_ret (v := .agg #[.int .i64 u, .int .i64 r, .int .i64 f]) (by simp [results, Try.results27, go_sem, e0, e1, e2]) rfl ?_
          exact tim_end O8.out R8.out (by omega) hq (by omega) (by omega) (by omega)
        · clear sw0 sw1
          go_wp2_with fail
          refine (pick_any q _ 2 _ (R6.out.alloc _) (by omega) (by omega) (by omega)).mono ?_
          rintro e w7 ⟨v, v0, v1, rfl, s7, r7⟩
          obtain ⟨u, hu, u0, u1⟩ := pick_two v v0 v1
          have cu := lit_at2 s7 zq6 hu
          have BX7 := Lib.hid ((BX6.out.alloc _).only s7.only hbq)
          have X7 := Lib.hid ((X6.out.alloc _).only s7.only (by simp; omega))
          have O7 := Lib.hid ((O6.out.alloc _).trans s7.only)
          have R7 := Lib.hid r7
          clear s7 r7 BX6 X6 O6 R6
          have k0 := BX7.out.cell 1
          have k1 := BX7.out.frozen 1
          have vn : v < ((2 : Nat) : Int) := by omega
          go_upto_region 10 with (fail)
          have BX8 : Hid (Box (w7.setCell ⟨b, 1, none⟩ (.int .i64 u)) b 24 [.int .i64 l, .int .i64 u, .int .i64 f]) := BX7.out.set 1 _
          have X8 := Lib.hid (X7.out.far (b' := b) (i := 1) (by omega) (.int .i64 u))
          have O8 := Lib.hid (O7.out.setCell (q := b) (j := 1) (.inr (by omega)) (.int .i64 u))
          have R8 := Lib.hid (R7.out.far (b := b) (i := 1) (by omega) (.int .i64 u))
          generalize w7.setCell ⟨b, 1, none⟩ (.int .i64 u) = w8 at BX8 X8 O8 R8 ⊢
          clear k0 k1 cu BX7 X7 O7 R7
          have c0 : w8.cell? ⟨b, 0, none⟩ = some (.int .i64 l) := BX8.out.cell 0
          have c1 : w8.cell? ⟨b, 1, none⟩ = some (.int .i64 u) := BX8.out.cell 1
          have c2 : w8.cell? ⟨b, 2, none⟩ = some (.int .i64 f) := BX8.out.cell 2
          have e0 : w8.cell? ⟨w.heap.size, 0, none⟩ = some (.int .i64 0) := X8.out.cell 0
          have e1 : w8.cell? ⟨w.heap.size, 1, none⟩ = some (.int .i64 0) := X8.out.cell 1
          have e2 : w8.cell? ⟨w.heap.size, 2, none⟩ = some (.int .i64 0) := X8.out.cell 2
          have g0 := X8.out.frozen 0
          have g1 := X8.out.frozen 1
          have g2 := X8.out.frozen 2
          go_wp2_with fail
          refine bodyPost_ret (v := .agg #[.int .i64 l, .int .i64 u, .int .i64 f]) (by simp [results, Try.results27, go_sem, e0, e1, e2]) rfl ?_
          exact tim_end O8.out R8.out (by omega) hq (by omega) (by omega) (by omega)
        · clear sw0 sw1
          have k0 := BX6.out.cell 2
          have k1 := BX6.out.frozen 2
          go_upto_region 10 with (fail)
          have BX8 : Hid (Box (w6.setCell ⟨b, 2, none⟩ (.int .i64 (-1))) b 24 [.int .i64 l, .int .i64 r, .int .i64 (-1)]) := BX6.out.set 2 _
          have X8 := Lib.hid (X6.out.far (b' := b) (i := 2) (by omega) (.int .i64 (-1)))
          have O8 := Lib.hid (O6.out.setCell (q := b) (j := 2) (.inr (by omega)) (.int .i64 (-1)))
          have R8 := Lib.hid (R6.out.far (b := b) (i := 2) (by omega) (.int .i64 (-1)))
          generalize w6.setCell ⟨b, 2, none⟩ (.int .i64 (-1)) = w8 at BX8 X8 O8 R8 ⊢
          clear k0 k1 BX6 X6 O6 R6
          have c0 : w8.cell? ⟨b, 0, none⟩ = some (.int .i64 l) := BX8.out.cell 0
          have c1 : w8.cell? ⟨b, 1, none⟩ = some (.int .i64 r) := BX8.out.cell 1
          have c2 : w8.cell? ⟨b, 2, none⟩ = some (.int .i64 (-1)) := BX8.out.cell 2
          have e0 : w8.cell? ⟨w.heap.size, 0, none⟩ = some (.int .i64 0) := X8.out.cell 0
          have e1 : w8.cell? ⟨w.heap.size, 1, none⟩ = some (.int .i64 0) := X8.out.cell 1
          have e2 : w8.cell? ⟨w.heap.size, 2, none⟩ = some (.int .i64 0) := X8.out.cell 2
          have g0 := X8.out.frozen 0
          have g1 := X8.out.frozen 1
          have g2 := X8.out.frozen 2
          go_wp2_with fail
          refine bodyPost_ret (v := .agg #[.int .i64 l, .int .i64 r, .int .i64 (-1)]) (by simp [results, Try.results27, go_sem, e0, e1, e2]) rfl ?_
          exact tim_end O8.out R8.out (by omega) hq (by omega) (by omega) (by omega)
end Go.Proofs.Ytmmngdofbmkmhaa
