/- The laws' own functions on slices of sprites: equal, marked. -/
import Derived.Test.YtacebhncecninaaSprJ
namespace Go.Proofs.Ytacebhncecninaa
open Go.ChangeShapes Go.WideShapes Go.ChangeAt Go.RowKit
set_option linter.unusedVariables false

section
variable {ops : Array Oper} {Q : Exit → Act → World → Prop} {T : Nat → Value → World → Prop} {a0 : Act} {w0 : World} {i : Nat} {o : Oper}
/-- A sprite is loaded out of the middle of a block. -/
theorem lb_sprm (x : Operand) (b k : Nat) (s : Spr) (hop : o.op = .load 48 x) (hr : ∀ w, Below w0.heap.size w0 w → w.rangeAt b k (scs s)) (hw : ∀ (ρ : Operand → Value) w, PreR ops T ρ w o.after.toList → wantV ops (slotR ρ) o = true)
    (h : ∀ (ρ : Operand → Value) w, (∀ n, (ops.toList.all fun o => o.dst != some n) = true → ρ (.tmp n) = a0.eval (.tmp n)) → PreR ops T ρ w o.after.toList → ρ x = .pointer (some ⟨b, k, none⟩) ∧ T i (dstV o (sprV s)) w) : Ob Try.prog ops Q (ClB w0) RlB T a0 i o :=
  lb_val (sprV s) hw fun ρ w hbl _ hx hp' => by
    obtain ⟨h1, h2⟩ := h ρ w hx hp'
    refine ⟨?_, h2⟩
    have hl := run_loadAt_mid (P := Try.prog) w b k 48 (scs s) _ (hr w hbl) Try.underlying48 rfl spr_info
    unfold execOp
    simp only [hop, h1]
    simp only [Sem.run_bind, hl, Result.andThen_ok, Sem.run_pure]
    rfl
end
set_option maxHeartbeats 2000000 in
theorem eq_sprs (A B : Option Addr) (m c d : Nat) (S : List Spr) (fa fb : List Nat) (w : World) (ha : Sprs w A m S fa) (hb : Sprs w B m S fb) (hn : m ≤ 1000000000) :
    Calls Try.prog 90 #[.slice A m c, .slice B m d] w fun e w' => e = .returned (.bool true) ∧ Below w.heap.size w w' := by
  have HA := Lib.hid ha
  have HB := Lib.hid hb
  clear ha hb
  go_enter Try.func90, Try.ntmps90
  go_wp2_with fail
  go_loopw [5] (fun i wr => ∃ k : Nat, k ≤ m ∧ i = .int .i64 k ∧ Below w.heap.size w wr) (fun i _ => m - (intOf i).toNat)
  case atStart => exact ⟨0, by omega, rfl, Below.refl _ _⟩
  case round =>
    obtain ⟨k, hk, rfl, hbl⟩ := hrel
    have BR := Lib.hid hbl
    clear hbl
    by_cases hlt : k < m
    · obtain ⟨p, o, rfl, _, _, hc⟩ := HA.out.at_ (by omega)
      obtain ⟨q, u, rfl, _, _, hd⟩ := HB.out.at_ (by omega)
      clear hc hd
      have RA : Hid (∀ w', Below wr.heap.size wr w' → w'.rangeAt p (o + k * 6) (scs (S.getD k .zero))) := Lib.hid fun w' hw' => spr_range ((HA.out.below BR.out).below hw') hlt
      have RB : Hid (∀ w', Below wr.heap.size wr w' → w'.rangeAt q (u + k * 6) (scs (S.getD k .zero))) := Lib.hid fun w' hw' => spr_range ((HB.out.below BR.out).below hw') hlt
      generalize S.getD k .zero = s at RA RB
      have hkm : (k : Int) < m := by omega
      have hk0 : 0 ≤ (k : Int) := by omega
      go_wp2_with fail
      refine wp_region_typed (ClB wr) RlB (Ty [TV (.slice (some ⟨p, o, none⟩) m c), TV (.int .i64 k), TV (.pointer (some ⟨p, o + k * 6, none⟩)), TV (sprV s), TV (.slice (some ⟨q, u, none⟩) m d), TV (.int .i64 k), TV (.pointer (some ⟨q, u + k * 6, none⟩)), TV (sprV s), TV (.bool true), TV (.bool false)])
        (by kernel_rfl) (by kernel_rfl) (stab_ty _ ⟨stabB_k _, stabB_k _, stabB_k _, stabB_k _, stabB_k _, stabB_k _, stabB_k _, stabB_k _, stabB_k _, stabB_k _, trivial⟩) (Below.refl _ _).drew ?_ ?_
      · refine ⟨?_, ?_, ?_, ?_, ?_, ?_, ?_, ?_, ?_, ?_, trivial⟩
        · exact lb_move (.tmp 0) (.inl rfl) (fun _ _ _ => want_none rfl) fun ρ wx hc hx hp => hx 0 rfl
        · exact lb_move (.tmp 5) (.inl rfl) (fun _ _ _ => want_none rfl) fun ρ wx hc hx hp => hx 5 rfl
        · refine lb_val (.pointer (some ⟨p, o + k * 6, none⟩)) (fun _ _ _ => want_none rfl) fun ρ wx hb hc hx hp => ⟨?_, rfl⟩
          have h0 : ρ (.tmp 17) = .slice (some ⟨p, o, none⟩) m c := hp.1 rfl
          have h1 : ρ (.tmp 18) = .int .i64 k := hp.2.1 rfl
          unfold execOp
          simp only [h0, h1]
          clear h0 h1 hx hc hp hb
          go_simp
        · exact lb_sprm (.tmp 19) p (o + k * 6) s rfl RA.out (fun _ _ _ => want_none rfl) fun ρ wx hx hp => ⟨hp.1 rfl, rfl⟩
        · exact lb_move (.tmp 1) (.inl rfl) (fun _ _ _ => want_none rfl) fun ρ wx hc hx hp => hx 1 rfl
        · exact lb_move (.tmp 5) (.inl rfl) (fun _ _ _ => want_none rfl) fun ρ wx hc hx hp => hx 5 rfl
        · refine lb_val (.pointer (some ⟨q, u + k * 6, none⟩)) (fun _ _ _ => want_none rfl) fun ρ wx hb hc hx hp => ⟨?_, rfl⟩
          have h0 : ρ (.tmp 21) = .slice (some ⟨q, u, none⟩) m d := hp.1 rfl
          have h1 : ρ (.tmp 22) = .int .i64 k := hp.2.1 rfl
          unfold execOp
          simp only [h0, h1]
          clear h0 h1 hx hc hp hb
          go_simp
        · exact lb_sprm (.tmp 23) q (u + k * 6) s rfl RB.out (fun _ _ _ => want_none rfl) fun ρ wx hx hp => ⟨hp.1 rfl, rfl⟩
        · refine lb_known _ _ _ (.bool true) (fun _ _ => by simp [go_sem]) rfl (fun _ _ _ => want_none rfl) #[sprV s, sprV s] (fun w hb => eq_spr s w) (fun ρ wx hc hx hp => ?_) (fun _ => rfl)
          have h0 : ρ (.tmp 20) = sprV s := hp.1 rfl
          have h1 : ρ (.tmp 24) = sprV s := hp.2.1 rfl
          simp only [List.map_toArray, List.map_cons, List.map_nil, h0, h1]
        · exact lb_unot (.tmp 25) _ true rfl (fun _ _ _ => want_none rfl) fun ρ wx hp => ⟨hp.1 rfl, rfl⟩
      intro vs wx hI hF
      obtain ⟨_, _, _, _, _, _, _, _, _, h9, _⟩ := hF
      replace h9 : vs 9 = .bool false := h9
      have HI : Hid (Below wr.heap.size wr wx) := hI
      simp only [putAll, Act.put, List.setIfInBounds_toArray, List.set_cons_zero, List.set_cons_succ, h9]
      clear hI h9
      have BX := Lib.hid (below_then BR.out HI.out)
      go_wp2_with fail
      go_roundw
      case rel => exact ⟨k + 1, by omega, by go_num, BX.out⟩
      case measure => simp [intOf]; omega
    · go_wp2_with fail
      go_ret
      exact ⟨rfl, BR.out⟩
/-- Cells of a block are there. -/
def Cells (w : World) (p o N : Nat) : Prop := ∀ q, q < N → ∃ v, w.cell? ⟨p, o + q, none⟩ = some v
theorem Cells.set {w : World} {p o N : Nat} (h : Cells w p o N) (a : Addr) (v : Value) : Cells (w.setCell a v) p o N := fun q hq => by
  obtain ⟨u, hu⟩ := h q hq
  by_cases e : a = ⟨p, o + q, none⟩
  · subst e; exact ⟨v, World.cell?_setCell_same' w _ v (by rw [hu]; rfl)⟩
  · refine ⟨u, Eq.trans ?_ hu⟩
    apply World.cell?_setCell_other
    exact e
/-- What marking leaves. -/
def MarkedS (n : Nat) (k : Int) (fp : List Nat) (w : World) (e : Ending) (w' : World) : Prop := e = .returned (.int .i64 (k + 6 * n)) ∧ Only fp w w'
theorem frozen_two {w : World} {a b : Addr} {u v : Value} (h : w.frozen? b = false) : ((w.setCell a u).frozen? b) = false := by rw [World.frozen?_setCell]; exact h
set_option maxRecDepth 100000 in
set_option maxHeartbeats 4000000 in
theorem mark_sprs (A : Option Addr) (m c : Nat) (k0 : Int) (S : List Spr) (fp : List Nat) (w : World) (ha : Sprs w A m S fp) (hf : ∀ b ∈ fp, ∀ o, w.frozen? ⟨b, o, none⟩ = false) (hn : m ≤ 100000000) (h0 : 0 ≤ k0) (h1 : k0 ≤ 10000000000) :
    Calls Try.prog 91 #[.slice A m c, .int .i64 k0] w (MarkedS m k0 fp w) := by
  cases m with
  | zero =>
    clear ha
    go_enter Try.func91, Try.ntmps91
    go_wp2_with fail
    go_loopw [1, 5] (fun q i wr => i = .int .i64 0 ∧ q = .int .i64 k0 ∧ wr = w) (fun _ _ _ => 0)
    case atStart => exact ⟨rfl, rfl, rfl⟩
    case round =>
      obtain ⟨rfl, rfl, rfl⟩ := hrel
      go_wp2_with fail
      go_ret
      exact ⟨ret_int (by omega), Only.refl _ _⟩
  | succ m' =>
    obtain ⟨m, hm⟩ : ∃ m, m = m' + 1 := ⟨_, rfl⟩
    rw [← hm] at ha hn ⊢
    have hm0 : 0 < m := by omega
    clear hm
    obtain ⟨p, o, rfl, hfp, hpl, hc⟩ := ha.at_ hm0
    have HC : Hid (Cells w p o (6 * m)) := Lib.hid fun q hq => by
      have hg := List.getElem?_eq_getElem (l := scs (S.getD (q / 6) .zero)) (i := q % 6) (by show q % 6 < 6; omega)
      have := hc (q / 6) (by omega) (q % 6) _ hg
      rw [Nat.div_add_mod] at this
      exact ⟨_, this⟩
    have HG : Hid (∀ q, w.frozen? ⟨p, q, none⟩ = false) := Lib.hid fun q => hf p (by rw [hfp]; simp) q
    have HP := Lib.hid hfp
    clear ha hf hc hfp
    go_enter Try.func91, Try.ntmps91
    go_wp2_with fail
    go_loopw [1, 5] (fun q i wr => ∃ k : Nat, k ≤ m ∧ i = .int .i64 k ∧ q = .int .i64 (k0 + 6 * k) ∧ Cells wr p o (6 * m) ∧ Only fp w wr ∧ (∀ q, wr.frozen? ⟨p, q, none⟩ = false)) (fun _ i _ => m - (intOf i).toNat)
    case atStart => exact ⟨0, Nat.zero_le _, rfl, by simp, HC.out, Only.refl _ _, HG.out⟩
    case round =>
      obtain ⟨k, hk, rfl, rfl, hr, hb, hf⟩ := hrel
      have HR := Lib.hid hr
      have HB := Lib.hid hb
      have HF := Lib.hid hf
      clear hr hb hf HC HG
      by_cases hlt : k < m
      · obtain ⟨v0, c0⟩ := HR.out (6 * k + 0) (by omega)
        obtain ⟨v1, c1⟩ := HR.out (6 * k + 1) (by omega)
        obtain ⟨v2, c2⟩ := HR.out (6 * k + 2) (by omega)
        obtain ⟨v3, c3⟩ := HR.out (6 * k + 3) (by omega)
        obtain ⟨v4, c4⟩ := HR.out (6 * k + 4) (by omega)
        obtain ⟨v5, c5⟩ := HR.out (6 * k + 5) (by omega)
        rw [show o + (6 * k + 0) = o + k * 6 by omega] at c0
        rw [show o + (6 * k + 1) = o + k * 6 + 1 by omega] at c1
        rw [show o + (6 * k + 2) = o + k * 6 + 2 by omega] at c2
        rw [show o + (6 * k + 3) = o + k * 6 + 3 by omega] at c3
        rw [show o + (6 * k + 4) = o + k * 6 + 4 by omega] at c4
        rw [show o + (6 * k + 5) = o + k * 6 + 5 by omega] at c5
        have g0 := HF.out (o + k * 6)
        have g1 := HF.out (o + k * 6 + 1)
        have g2 := HF.out (o + k * 6 + 2)
        have g3 := HF.out (o + k * 6 + 3)
        have g4 := HF.out (o + k * 6 + 4)
        have g5 := HF.out (o + k * 6 + 5)
        have hkm : (k : Int) < m := by omega
        have hk0 : 0 ≤ (k : Int) := by omega
        go_wp2_with fail
        have hpf : p ∈ fp := by rw [HP.out]; simp
        go_roundw
        case rel => exact ⟨k + 1, by omega, by go_num, by go_num, (((((HR.out.set _ _).set _ _).set _ _).set _ _).set _ _).set _ _, (((((HB.out.setCell (.inl hpf) _).setCell (.inl hpf) _).setCell (.inl hpf) _).setCell (.inl hpf) _).setCell (.inl hpf) _).setCell (.inl hpf) _, fun q => by simp only [World.frozen?_setCell]; exact HF.out q⟩
        case measure => simp [intOf]; omega
      · obtain rfl : k = m := by omega
        go_wp2_with fail
        go_ret
        exact ⟨ret_int (by omega), HB.out⟩
end Go.Proofs.Ytacebhncecninaa
