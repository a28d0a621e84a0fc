/- Laws of chapter 11 on one sprite alone, walked. -/
import Derived.Test.YtpmeppknbpoibaaSprY
import Derived.Test.YtpmeppknbpoibaaSprK
namespace Go.Proofs.Ytpmeppknbpoibaa
open Go.ChangeShapes Go.WideShapes Go.ChangeAt Go.RowKit
set_option linter.unusedVariables false

/-- A sprite alone, at a place. -/
def loneR (s : Spr) (m : Nat) (zs : List Int) (x y : Int) : Int × Int := atR [s] zs x y (atT [s] m zs x y)
theorem lone_off {s : Spr} {y : Int} (h : betB (y - s.y) 0 7 = false) : onF [s] y = [] := by
  have hc : covB [s] y 0 = false := h
  unfold onF allF
  show (onN [s] y (0 + 1)).take 4 = _
  rw [onN_no hc]
  rfl
theorem loneR_eq (s : Spr) (m : Nat) (zs : List Int) (x y : Int) : loneR s m zs x y = if (sprB [s] m zs && betB x 0 31 && betB y 0 15) = true ∧ valF s zs x y ≠ 0 then (0, valF s zs x y) else (-1, 0) := by
  unfold loneR atT
  by_cases h : (sprB [s] m zs && betB x 0 31 && betB y 0 15) = true
  · rw [if_pos h]
    cases hc : betB (y - s.y) 0 7
    · have hv : valF s zs x y = 0 := by unfold valF; rw [hc, Bool.and_false]; rfl
      unfold atF
      rw [lone_off hc, if_neg (fun k => k.2 hv)]
      rfl
    · rw [lone_at hc]
      by_cases hv : valF s zs x y = 0
      · rw [if_neg (by simpa using hv), if_neg (fun k => k.2 hv)]
        rfl
      · rw [if_pos hv, if_pos ⟨h, hv⟩]
        rfl
  · rw [if_neg h, if_neg (fun k => h k.1)]
    rfl
theorem at_split {S : List Spr} {zs : List Int} {x y : Int} {k : Nat} (h : atF S zs x y = some k) : ∃ t : Nat, t < (onF S y).length ∧ (onF S y)[t]? = some k ∧ valF (S.getD k .zero) zs x y ≠ 0 ∧ ∀ i j, i < t → (onF S y)[i]? = some j → valF (S.getD j .zero) zs x y = 0 := by
  unfold atF at h
  obtain ⟨hp, la, lb, he, hn⟩ := List.find?_eq_some_iff_append.1 h
  refine ⟨la.length, by rw [he]; simp, by rw [he]; simp, by simpa using hp, fun i j hi hj => ?_⟩
  rw [he, List.getElem?_append_left hi] at hj
  have hm : j ∈ la := List.mem_of_getElem? hj
  have := hn j hm
  simpa using this
/-- A new slice of one sprite, of one tile. -/
def TSpr (s : Spr) : Value → World → Prop := fun v w => ∃ b, v = .slice (some ⟨b, 0, none⟩) 1 1 ∧ Sprs w (some ⟨b, 0, none⟩) 1 [s] [b]
theorem stabB_spr (s : Spr) : Stab RlB (TSpr s) := fun _ _ _ (hR : Below _ _ _) ⟨b, hv, hi⟩ => ⟨b, hv, hi.below hR⟩
def TTil (px : List Int) : Value → World → Prop := fun v w => ∃ b, v = .slice (some ⟨b, 0, none⟩) 1 1 ∧ Ints w (some ⟨b, 0, none⟩) (64 * 1) px [b]
theorem stabB_til1 (px : List Int) : Stab RlB (TTil px) := fun _ _ _ (hR : Below _ _ _) ⟨b, hv, hi⟩ => ⟨b, hv, hi.below hR⟩
theorem run_buildS (s : Spr) (w : World) : (Instr.buildSlice 23 1 #[(0, sprV s)]).run Try.prog w = .ok (.slice (some ⟨w.heap.size, 0, none⟩) 1 1) (w.alloc (.cells #[.int .i64 s.x, .int .i64 s.y, .int .i64 s.n, .bool s.ac, .bool s.dn, .bool s.bh] 29)) := by
  go_simp
section
variable {ops : Array Oper} {Q : Exit → Act → World → Prop} {T : Nat → Value → World → Prop} {a0 : Act} {w0 : World} {i : Nat} {o : Oper}
theorem lb_lits (x : Operand) (s : Spr) (hop : o.op = .buildSlice 23 1 #[(0, x)]) (hw : ∀ (ρ : Operand → Value) w, PreR ops T ρ w o.after.toList → wantV ops (slotR ρ) o = true)
    (h : ∀ (ρ : Operand → Value) w, PreR ops T ρ w o.after.toList → ρ x = sprV s) (hT : ∀ v w, TSpr s v w → T i (dstV o v) w) : Ob Try.prog ops Q (ClB w0) RlB T a0 i o :=
  lb_gen hw fun ρ w hb hc _ _ hp => by
    have h1 := h ρ w hp
    have e : (execOp ρ o).run Try.prog w = .ok (.value (.slice (some ⟨w.heap.size, 0, none⟩) 1 1)) (w.alloc (.cells #[.int .i64 s.x, .int .i64 s.y, .int .i64 s.n, .bool s.ac, .bool s.dn, .bool s.bh] 29)) := by
      unfold execOp
      rw [hop]
      simp only [List.map_toArray, List.map_cons, List.map_nil, h1, Sem.run_bind, run_buildS, Result.andThen_ok, Sem.run_pure]
    rw [e]
    exact ⟨below1 w _, hT _ _ ⟨_, rfl, lone_spr w s⟩⟩
theorem lb_litt (x : Operand) (px : List Int) (hl : px.length = 64) (hop : o.op = .buildSlice 24 1 #[(0, x)]) (hw : ∀ (ρ : Operand → Value) w, PreR ops T ρ w o.after.toList → wantV ops (slotR ρ) o = true)
    (h : ∀ (ρ : Operand → Value) w, PreR ops T ρ w o.after.toList → ρ x = tilV px) (hT : ∀ v w, TTil px v w → T i (dstV o v) w) : Ob Try.prog ops Q (ClB w0) RlB T a0 i o :=
  lb_gen hw fun ρ w hb hc _ _ hp => by
    have h1 := h ρ w hp
    have e : (execOp ρ o).run Try.prog w = .ok (.value (.slice (some ⟨w.heap.size, 0, none⟩) 1 1)) (w.alloc (.cells (iv px).toArray 44)) := by
      unfold execOp
      rw [hop]
      simp only [List.map_toArray, List.map_cons, List.map_nil, h1, Sem.run_bind, run_buildT px hl, Result.andThen_ok, Sem.run_pure]
    rw [e]
    exact ⟨below1 w _, hT _ _ ⟨_, rfl, lone_tile w px hl⟩⟩
/-- A whole sprite is loaded. -/
theorem lb_spr (x : Operand) (b : Nat) (s : Spr) {t : TypeId} (hop : o.op = .load 29 x) (hb : Box w0 b t (scs s)) (hw : ∀ (ρ : Operand → Value) w, PreR ops T ρ w o.after.toList → wantV ops (slotR ρ) o = true)
    (h : ∀ (ρ : Operand → Value) w, (∀ n, (ops.toList.all fun o => o.dst != some n) = true → ρ (.tmp n) = a0.eval (.tmp n)) → PreR ops T ρ w o.after.toList → ρ x = .pointer (some ⟨b, 0, none⟩) ∧ T i (dstV o (sprV s)) w) : Ob Try.prog ops Q (ClB w0) RlB T a0 i o :=
  lb_val (sprV s) hw fun ρ w hbl _ hx hp => by
    obtain ⟨h1, h2⟩ := h ρ w hx hp
    refine ⟨?_, h2⟩
    have hl := run_loadVar_row (P := Try.prog) w b t 29 (scs s).toArray (0, 0) _ (hb.below hbl) Try.underlying29 rfl spr_info
    unfold execOp
    simp only [hop, h1, Instr.loadAt, Instr.sureAddr, Sem.run_bind, Sem.run_pure, Result.andThen_ok, hl]
    rfl
end
theorem run_one_spr (w : World) (p o n c a : Nat) (ha : a < n) (hc : n ≤ c) : (Instr.slice 23 (.slice (some ⟨p, o, none⟩) n c) (some (.int .i64 (a : Int))) (some (.int .i64 ((a : Int) + 1))) none).run Try.prog w = .ok (.slice (some ⟨p, o + a * 6, none⟩) 1 (c - a)) w := by
  have h1 : (a : Int) ≤ (a : Int) + 1 := by omega
  have h2 : (a : Int) + 1 ≤ c := by omega
  have h3 : ¬ c = a := by omega
  have h4 : 0 ≤ (a : Int) := by omega
  have h5 : 0 ≤ (a : Int) + 1 := by omega
  go_simp
set_option maxRecDepth 100000 in
set_option maxHeartbeats 8000000 in
theorem walk_FnSpriteAt (a0 : Option Addr) (len0 cap0 : Nat) (z0 : List Int) (w : World) (w0 : IsRow .u8 w a0 len0 cap0 z0) :
    Calls Try.prog 5 #[.slice a0 len0 cap0] w fun e w' => e = .returned (.bool true) ∧ Below w.heap.size w w' := by
  have H := Lib.hid w0
  have hl := isRow_len w0
  clear w0
  by_cases hs : len0 ≤ 1048576
  · go_enter Try.func5, Try.ntmps5
    go_wp2_with fail
    refine (draw_spriteAt _ _ _ _ _ H.out).mono ?_; rintro e w1 ⟨A, n, c, S, fs, T, m, d, zs, ft, x, y, rfl, hg⟩
    obtain ⟨n1, hnc, m1, m4, hmd, hs1, ht1, b1⟩ := hg
    have S1 := Lib.hid hs1
    have T1 := Lib.hid ht1
    have B1 := Lib.hid b1
    have HL := Lib.hid hs1.1
    have hn9 : n ≤ 1000000000 := by omega
    have hm9 : m ≤ 1000000000 := by omega
    clear hs1 ht1 b1
    go_wp2_with fail
    refine (im_at A n c S fs T m d zs ft x y _ S1.out T1.out hn9 hm9).mono ?_; rintro e w2 ⟨rfl, bl⟩
    obtain ⟨R, hR⟩ : ∃ R, atT S m zs x y = R := ⟨_, rfl⟩
    have HR := Lib.hid hR
    rw [hR]
    clear hR
    obtain ⟨V, hV⟩ : ∃ V, atR S zs x y R = V := ⟨_, rfl⟩
    have HV := Lib.hid hV
    rw [hV]
    clear hV
    obtain ⟨va, vb⟩ := V
    rw [show pairV (va, vb) = .tuple #[.int .i64 va, .int .i64 vb] from rfl]
    have S2 := Lib.hid (S1.out.below bl)
    have T2 := Lib.hid (T1.out.below bl)
    have B2 := Lib.hid (below_then B1.out bl)
    clear S1 T1 B1 bl
    go_wp2_with fail
    refine (spec_at A n c S fs T m d zs ft x y _ S2.out T2.out hn9 hm9).mono ?_; rintro e w3 ⟨rfl, bl⟩
    rw [HR.out, HV.out, show pairV (va, vb) = .tuple #[.int .i64 va, .int .i64 vb] from rfl]
    have S3 := Lib.hid (S2.out.below bl)
    have T3 := Lib.hid (T2.out.below bl)
    have B3 := Lib.hid (below_then B2.out bl)
    clear S2 T2 B2 bl
    cases R with
    | none =>
      obtain ⟨rfl, rfl⟩ : va = -1 ∧ vb = 0 := by
        have := HV.out
        unfold atR at this
        injection this with h1 h2
        exact ⟨h1.symm, h2.symm⟩
      go_wp2_with fail
      refine (alive_any _).mono ?_; rintro e w' ⟨rfl, rfl⟩
      go_wp2_with fail
      go_ret
      exact ⟨rfl, B3.out⟩
    | some k =>
      obtain ⟨rfl, hvb⟩ : va = (k : Int) ∧ vb = valF (S.getD k .zero) zs x y := by
        have := HV.out
        unfold atR at this
        injection this with h1 h2
        exact ⟨h1.symm, h2.symm⟩
      have hok : (sprB S m zs && betB x 0 31 && betB y 0 15) = true ∧ atF S zs x y = some k := by
        have := HR.out
        unfold atT at this
        split at this
        · rename_i h; exact ⟨h, this⟩
        · cases this
      obtain ⟨t, htl, htk, htv, hbef⟩ := at_split hok.2
      have hok1 := hok.1
      simp only [Bool.and_eq_true] at hok1
      have hval := hok1.1.1
      have HXY : Hid (betB x 0 31 = true ∧ betB y 0 15 = true) := Lib.hid ⟨hok1.1.2, hok1.2⟩
      have HVAL := Lib.hid hval
      have HO : Hid (onT S m zs y = onF S y) := Lib.hid (by unfold onT; rw [hval, hok1.2]; rfl)
      have hkS : k < S.length := by
        have hm : k ∈ onF S y := (atF_some hok.2).1
        exact (onN_mem.1 (List.mem_of_mem_take hm)).1
      have hvr := valF_b (s := S.getD k .zero) T3.out.1 (sprB_iff.1 hval).1 ((sprB_iff.1 hval).2.1 k hkS) x y
      rw [← hvb] at hvr htv
      have hv1 : 1 ≤ vb := by omega
      have hv3 : vb ≤ 3 := hvr.2
      have hk0 : ¬ (k : Int) < 0 := by omega
      have HTK := Lib.hid htk
      have HBEF := Lib.hid hbef
      have HTV : Hid (valF (S.getD k .zero) zs x y ≠ 0) := Lib.hid (by rw [← hvb]; exact htv)
      clear hok hok1 hval hvb HV HR hvr htk hbef htv
      go_wp2_with fail
      refine (im_onLine A n c S fs T m d zs ft y _ S3.out T3.out hn9 hm9).mono ?_
      rw [HO.out]
      rintro e w4 ⟨Rg, rg, lg, rfl, hrg, hig, hng, bl⟩
      obtain ⟨q, hq⟩ : ∃ q, (onF S y).length = q := ⟨_, rfl⟩
      have q4 : q ≤ 4 := by rw [← hq]; exact onF_len S y
      rw [hq] at hig hrg htl ⊢
      have HQ := Lib.hid hq
      clear hq
      have G4 := Lib.hid hig
      have S4 := Lib.hid (S3.out.below bl)
      have T4 := Lib.hid (T3.out.below bl)
      have B4 := Lib.hid (below_then B3.out bl)
      clear hig hng S3 T3 B3 bl
      have HON : Hid (∀ j, j < q → ∃ a : Nat, (onF S y)[j]? = some a ∧ (nums (onF S y)).getD j 0 = (a : Int) ∧ a < n) := Lib.hid fun j hj => by
        obtain ⟨a, ha, han, _⟩ := onF_get (S := S) (y := y) (i := j) (by rw [HQ.out]; exact hj)
        exact ⟨a, ha, nums_get _ _ _ ha, by rw [← HL.out]; exact han⟩
      obtain ⟨gp, go, rfl, _, hgp, hgc⟩ := G4.out.at_ (by omega)
      obtain ⟨p, o, rfl, _, hpl, _⟩ := S4.out.at_ (by have := HON.out 0 (by omega); omega)
      have HGC := Lib.hid hgc
      clear hgc
      go_wp2_with fail
      go_loopw [12, 13] (fun f i wr => ∃ j : Nat, j ≤ t + 1 ∧ i = .int .i64 j ∧ f = .bool (decide (j = t + 1)) ∧ Below w4.heap.size w4 wr) (fun _ i _ => t + 1 - (intOf i).toNat)
      case atStart => exact ⟨0, by omega, rfl, by simp, Below.refl _ _⟩
      case round =>
        obtain ⟨j, hj, rfl, rfl, hbl⟩ := hrel
        have BR := Lib.hid hbl
        clear hbl
        by_cases hlt : j < t + 1
        · obtain ⟨a, haj, hga, han⟩ := HON.out j (by omega)
          have hjq : (j : Int) < q := by omega
          have hdj : decide (j = t + 1) = false := by simp; omega
          rw [hdj]
          clear hdj
          have CG : Hid (∀ W, Below wr.heap.size wr W → W.cell? ⟨gp, go + j, none⟩ = some (.int .i64 a)) := Lib.hid fun W hb => by
            rw [(below_then BR.out hb).cell (by exact hgp), HGC.out j (by omega), hga]
          have hanI : (a : Int) < n := by omega
          have HS1 : Hid (Sprs wr (some ⟨p, o + a * 6, none⟩) 1 [S.getD a .zero] fs) := Lib.hid (by
            have h := (S4.out.below BR.out).part a 1 (by omega) (by omega)
            have e : ((S.drop a).take 1) = [S.getD a .zero] := by
              rw [List.drop_eq_getElem_cons (by rw [HL.out]; omega), List.getD_eq_getElem?_getD, List.getElem?_eq_getElem (by rw [HL.out]; omega)]
              rfl
            rw [e, Nat.mul_comm 6 a] at h
            exact h)
          have HT1 := Lib.hid (T4.out.below BR.out)
          have HSL : Hid (∀ wq, (Instr.slice 23 (.slice (some ⟨p, o, none⟩) n c) (some (.int .i64 (a : Int))) (some (.int .i64 ((a : Int) + 1))) none).run Try.prog wq = .ok (.slice (some ⟨p, o + a * 6, none⟩) 1 (c - a)) wq) := Lib.hid fun wq => run_one_spr wq p o n c a han hnc
          have hw1 : IntKind.i64.wrap ((a : Int) + 1) = (a : Int) + 1 := by rw [IntKind.wrap_i64]; omega
          have hone : (j < t ∧ loneR (S.getD a .zero) m zs x y = (-1, 0) ∧ a ≠ k) ∨ (j = t ∧ a = k ∧ (loneR (S.getD a .zero) m zs x y).1 = 0) := by
            by_cases hjt : j < t
            · have hv := HBEF.out j a hjt haj
              refine .inl ⟨hjt, by rw [loneR_eq, if_neg (fun h => h.2 hv)], fun e => ?_⟩
              rw [e] at hv
              exact HTV.out hv
            · have hjt2 : j = t := by omega
              have hak : a = k := by
                have h1 := HTK.out
                rw [hjt2] at haj
                rw [haj] at h1
                injection h1
              refine .inr ⟨hjt2, hak, ?_⟩
              have hsp : sprB [S.getD a .zero] m zs = true := by
                have h := spr_part HVAL.out a 1
                have e : ((S.drop a).take 1) = [S.getD a .zero] := by
                  rw [List.drop_eq_getElem_cons (by rw [HL.out]; omega), List.getD_eq_getElem?_getD, List.getElem?_eq_getElem (by rw [HL.out]; omega)]
                  rfl
                rwa [e] at h
              rw [loneR_eq, if_pos ⟨by rw [hsp, HXY.out.1, HXY.out.2]; rfl, by rw [hak]; exact HTV.out⟩]
          obtain ⟨r1, hr1⟩ : ∃ r1, (loneR (S.getD a .zero) m zs x y).1 = r1 := ⟨_, rfl⟩
          obtain ⟨r2, hr2⟩ : ∃ r2, (loneR (S.getD a .zero) m zs x y).2 = r2 := ⟨_, rfl⟩
          have HR1 : Hid (pairV (atR [S.getD a .zero] zs x y (atT [S.getD a .zero] m zs x y)) = .tuple #[.int .i64 r1, .int .i64 r2]) := Lib.hid (by
            show Value.tuple #[.int .i64 (loneR (S.getD a .zero) m zs x y).1, .int .i64 (loneR (S.getD a .zero) m zs x y).2] = _
            rw [hr1, hr2])
          have HONE : Hid ((j < t ∧ r1 = -1 ∧ a ≠ k) ∨ (j = t ∧ a = k ∧ r1 = 0)) := Lib.hid (by
            rcases hone with ⟨h1, h2, h3⟩ | ⟨h1, h2, h3⟩
            · exact .inl ⟨h1, by rw [← hr1, h2], h3⟩
            · exact .inr ⟨h1, h2, by rw [← hr1, h3]⟩)
          clear hone hr1 hr2 haj hga
          have hjn : ¬ (q : Int) ≤ j := by omega
          go_wp2_with fail
          refine wp_region_typed (ClB wr) RlB (Ty [TV (.slice (some ⟨p, o, none⟩) n c), TV (.slice (some ⟨gp, go, none⟩) q rg), TV (.int .i64 j), TV (.pointer (some ⟨gp, go + j, none⟩)), TV (.int .i64 a), TV (.slice (some ⟨gp, go, none⟩) q rg), TV (.int .i64 j), TV (.pointer (some ⟨gp, go + j, none⟩)), TV (.int .i64 a), TV (.int .i64 (a + 1)), TV (.slice (some ⟨p, o + a * 6, none⟩) 1 (c - a)), TV (.slice T m d), TV (.int .i64 x), TV (.int .i64 y), TV (.tuple #[.int .i64 r1, .int .i64 r2]), TV (.tuple #[.int .i64 r1, .int .i64 r2]), TV (.int .i64 r1), TV (.int .i64 r2), TV (.int .i64 r1), TV (.int .i64 r2)])
            (by kernel_rfl) (by kernel_rfl) (stab_ty _ ⟨stabB_k _, stabB_k _, stabB_k _, stabB_k _, stabB_k _, stabB_k _, stabB_k _, stabB_k _, stabB_k _, stabB_k _, stabB_k _, stabB_k _, stabB_k _, stabB_k _, stabB_k _, stabB_k _, stabB_k _, stabB_k _, stabB_k _, stabB_k _, trivial⟩) (Below.refl _ _).drew ?_ ?_
          · refine ⟨?_, ?_, ?_, ?_, ?_, ?_, ?_, ?_, ?_, ?_, ?_, ?_, ?_, ?_, ?_, ?_, ?_, ?_, ?_, ?_, trivial⟩
            · exact lb_move (.tmp 3) (.inl rfl) (fun _ _ _ => want_none rfl) fun ρ wx hc hx hp => hx 3 rfl
            · exact lb_move (.tmp 11) (.inl rfl) (fun _ _ _ => want_none rfl) fun ρ wx hc hx hp => hx 11 rfl
            · exact lb_move (.tmp 13) (.inl rfl) (fun _ _ _ => want_none rfl) fun ρ wx hc hx hp => hx 13 rfl
            · refine lb_val (.pointer (some ⟨gp, go + j, none⟩)) (fun _ _ _ => want_none rfl) fun ρ wx hb hc hx hp => ⟨?_, rfl⟩
              have h77 : ρ (.tmp 77) = .slice (some ⟨gp, go, none⟩) q rg := hp.1 rfl
              have h78 : ρ (.tmp 78) = .int .i64 j := hp.2.1 rfl
              unfold execOp
              simp only [h77, h78]
              clear h77 h78 hx hp hc hb
              go_simp
            · refine lb_val (.int .i64 a) (fun _ _ _ => want_none rfl) fun ρ wx hb hc hx hp => ⟨?_, rfl⟩
              have h79 : ρ (.tmp 79) = .pointer (some ⟨gp, go + j, none⟩) := hp.1 rfl
              have c1 := CG.out wx hb
              unfold execOp
              simp only [h79]
              clear h79 hx hp hc hb
              go_simp
            · exact lb_move (.tmp 11) (.inl rfl) (fun _ _ _ => want_none rfl) fun ρ wx hc hx hp => hx 11 rfl
            · exact lb_move (.tmp 13) (.inl rfl) (fun _ _ _ => want_none rfl) fun ρ wx hc hx hp => hx 13 rfl
            · refine lb_val (.pointer (some ⟨gp, go + j, none⟩)) (fun _ _ _ => want_none rfl) fun ρ wx hb hc hx hp => ⟨?_, rfl⟩
              have h81 : ρ (.tmp 81) = .slice (some ⟨gp, go, none⟩) q rg := hp.1 rfl
              have h82 : ρ (.tmp 82) = .int .i64 j := hp.2.1 rfl
              unfold execOp
              simp only [h81, h82]
              clear h81 h82 hx hp hc hb
              go_simp
            · refine lb_val (.int .i64 a) (fun _ _ _ => want_none rfl) fun ρ wx hb hc hx hp => ⟨?_, rfl⟩
              have h83 : ρ (.tmp 83) = .pointer (some ⟨gp, go + j, none⟩) := hp.1 rfl
              have c1 := CG.out wx hb
              unfold execOp
              simp only [h83]
              clear h83 hx hp hc hb
              go_simp
            · refine lb_val (.int .i64 (a + 1)) (fun _ _ _ => want_none rfl) fun ρ wx hb hc hx hp => ⟨?_, rfl⟩
              have h84 : ρ (.tmp 84) = .int .i64 a := hp.1 rfl
              have hc0 := hc (.int .i64 1)
              unfold execOp
              simp only [h84, hc0]
              clear h84 hc0 hx hp hc hb
              go_simp
            · refine lb_val (.slice (some ⟨p, o + a * 6, none⟩) 1 (c - a)) (fun _ _ _ => want_none rfl) fun ρ wx hb hc hx hp => ⟨?_, rfl⟩
              have h76 : ρ (.tmp 76) = .slice (some ⟨p, o, none⟩) n c := hp.1 rfl
              have h80 : ρ (.tmp 80) = .int .i64 a := hp.2.1 rfl
              have h85 : ρ (.tmp 85) = .int .i64 (a + 1) := hp.2.2.1 rfl
              have hsl := HSL.out wx
              unfold execOp
              simp only [h76, h80, h85, Option.map_some, Option.map_none]
              clear h76 h80 h85 hx hp hc hb
              go_simp
            · exact lb_move (.tmp 4) (.inl rfl) (fun _ _ _ => want_none rfl) fun ρ wx hc hx hp => hx 4 rfl
            · exact lb_move (.tmp 5) (.inl rfl) (fun _ _ _ => want_none rfl) fun ρ wx hc hx hp => hx 5 rfl
            · exact lb_move (.tmp 6) (.inl rfl) (fun _ _ _ => want_none rfl) fun ρ wx hc hx hp => hx 6 rfl
            · refine lb_known _ _ _ (.tuple #[.int .i64 r1, .int .i64 r2]) (fun _ _ => by simp [go_sem]) rfl (fun _ _ _ => want_none rfl) #[.slice (some ⟨p, o + a * 6, none⟩) 1 (c - a), .slice T m d, .int .i64 x, .int .i64 y] (fun wq hb => ?_) (fun ρ wx hc hx hp => ?_) (fun _ => rfl)
              · have h := im_at (some ⟨p, o + a * 6, none⟩) 1 (c - a) [S.getD a .zero] fs T m d zs ft x y wq (HS1.out.below hb) (HT1.out.below hb) (by omega) hm9
                have e1 : pairV (atR [S.getD a .zero] zs x y (atT [S.getD a .zero] m zs x y)) = .tuple #[.int .i64 r1, .int .i64 r2] := HR1.out
                rw [e1] at h
                exact h
              · have h0 : ρ (.tmp 86) = .slice (some ⟨p, o + a * 6, none⟩) 1 (c - a) := hp.1 rfl
                have h1 : ρ (.tmp 87) = .slice T m d := hp.2.1 rfl
                have h2 : ρ (.tmp 88) = .int .i64 x := hp.2.2.1 rfl
                have h3 : ρ (.tmp 89) = .int .i64 y := hp.2.2.2.1 rfl
                simp only [List.map_toArray, List.map_cons, List.map_nil, h0, h1, h2, h3]
            · exact lb_move (.tmp 90) (.inl rfl) (fun _ _ _ => want_none rfl) fun ρ wx hc hx hp => hp.1 rfl
            · refine lb_val (.int .i64 r1) (fun _ _ _ => want_none rfl) fun ρ wx hb hc hx hp => ⟨?_, rfl⟩
              have h75 : ρ (.tmp 75) = .tuple #[.int .i64 r1, .int .i64 r2] := hp.1 rfl
              unfold execOp
              simp only [h75]
              clear h75 hx hp hc hb
              go_simp
            · refine lb_val (.int .i64 r2) (fun _ _ _ => want_none rfl) fun ρ wx hb hc hx hp => ⟨?_, rfl⟩
              have h75 : ρ (.tmp 75) = .tuple #[.int .i64 r1, .int .i64 r2] := hp.1 rfl
              unfold execOp
              simp only [h75]
              clear h75 hx hp hc hb
              go_simp
            · exact lb_move (.tmp 91) (.inr rfl) (fun _ _ _ => want_none rfl) fun ρ wx hc hx hp => hp.1 rfl
            · exact lb_move (.tmp 92) (.inr rfl) (fun _ _ _ => want_none rfl) fun ρ wx hc hx hp => hp.1 rfl
          intro vs wx hI hF
          obtain ⟨-, -, -, -, -, -, -, -, -, -, -, -, -, -, -, -, -, -, h18, h19, -⟩ := hF
          replace h18 : vs 18 = .int .i64 r1 := h18
          replace h19 : vs 19 = .int .i64 r2 := h19
          have HI : Hid (Below wr.heap.size wr wx) := hI
          simp only [putAll, Act.put, List.setIfInBounds_toArray, List.set_cons_zero, List.set_cons_succ, h18, h19]
          clear hI h18 h19
          have BX := Lib.hid (below_then BR.out HI.out)
          have c2 := CG.out wx HI.out
          rcases HONE.out with ⟨h1, h2, h3⟩ | ⟨h1, h2, h3⟩
          · subst h2
            have h3' : ((a : Int) == k) = false := by simp; omega
            have hdn : decide (j + 1 = t + 1) = false := by simp; omega
            have HDN := Lib.hid hdn
            clear hdn
            go_wp2_with fail
            go_roundw
            case rel => exact ⟨j + 1, by omega, by go_num, by rw [HDN.out], BX.out⟩
            case measure => first | (simp [intOf]; omega) | simp [intOf]
          · subst h1 h2 h3
            go_wp2_with fail
            go_roundw
            case rel => exact ⟨j + 1, by omega, by go_num, by simp, BX.out⟩
            case measure => first | (simp [intOf]; omega) | simp [intOf]
        · obtain rfl : j = t + 1 := by omega
          rw [decide_eq_true (rfl : t + 1 = t + 1)]
          by_cases htq : t + 1 < q
          · have htq' : ((t + 1 : Nat) : Int) < q := by omega
            go_wp2_with fail
            go_ret
            exact ⟨rfl, below_then B4.out BR.out⟩
          · have htq' : ¬ ((t + 1 : Nat) : Int) < q := by omega
            go_wp2_with fail
            go_ret
            exact ⟨rfl, below_then B4.out BR.out⟩
  · have hs' : 1048576 < len0 := by omega
    go_enter Try.func5, Try.ntmps5
    go_wp2_with fail
    go_ret
    exact ⟨rfl, Below.refl _ _⟩
theorem run_til01 (w : World) (p o n c : Nat) (h1 : 1 ≤ n) (hc : n ≤ c) : (Instr.slice 24 (.slice (some ⟨p, o, none⟩) n c) (some (.int .i64 0)) (some (.int .i64 1)) none).run Try.prog w = .ok (.slice (some ⟨p, o, none⟩) 1 c) w := by
  have h2 : (1 : Int) ≤ c := by omega
  have h3 : ¬ c = 0 := by omega
  go_simp
theorem run_til1 (w : World) (p o n c : Nat) (h1 : 1 ≤ n) (hc : n ≤ c) : (Instr.slice 24 (.slice (some ⟨p, o, none⟩) n c) none (some (.int .i64 1)) none).run Try.prog w = .ok (.slice (some ⟨p, o, none⟩) 1 c) w := by
  have h2 : (1 : Int) ≤ c := by omega
  have h3 : ¬ c = 0 := by omega
  go_simp
theorem ints_oneT {w : World} {T : Option Addr} {n : Nat} {zs : List Int} {ft : List Nat} (h : Ints w T (64 * n) zs ft) (hn : 1 ≤ n) : Ints w T (64 * 1) (zs.take 64) ft := by
  have hl := h.1
  obtain ⟨p, o, rfl, hf, hp, hc⟩ := h.at_ (by omega)
  refine ⟨by rw [List.length_take]; omega, .inr ⟨by omega, p, o, rfl, hf, hp, fun i hi => ?_⟩⟩
  rw [hc i (by omega), List.getD_eq_getElem?_getD, List.getD_eq_getElem?_getD, List.getElem?_take, if_pos (by omega)]
theorem ints_range {w : World} {p o n : Nat} {zs : List Int} {ft : List Nat} (h : Ints w (some ⟨p, o, none⟩) n zs ft) : w.rangeAt p o (iv zs) := by
  intro j v hv
  have hj : j < n := by
    have h1 := (List.getElem?_eq_some_iff.1 hv).1
    have h2 := h.1
    simp [iv] at h1
    omega
  obtain ⟨p', o', he, _, _, hc⟩ := h.at_ (by omega)
  injection he with he
  injection he with e1 e2 _
  subst e1 e2
  rw [hc j hj, ← hv, iv_at zs j (by rw [h.1]; exact hj)]
theorem tilB_take {zs : List Int} {k : Nat} (h : tilB zs = true) : tilB (zs.take k) = true := by
  unfold tilB at *
  rw [List.all_eq_true] at *
  exact fun x hx => h x (List.mem_of_mem_take hx)
theorem lone_ok {s0 : Spr} {m : Nat} {zs : List Int} {ac : Bool} (h : sprOk m s0 = true) (hz : tilB zs = true) : sprB [⟨s0.x, s0.y, 0, ac, s0.dn, s0.bh⟩] 1 zs = true := by
  refine sprB_iff.2 ⟨hz, fun i hi => ?_, by simp, by omega⟩
  obtain rfl : i = 0 := by simp at hi; omega
  unfold sprOk at h
  simp only [Bool.and_eq_true] at h
  show (betB s0.x (-16) 64 && betB s0.y (-16) 64 && betB 0 0 (((1 : Nat) : Int) - 1)) = true
  rw [h.1.1, h.1.2]
  rfl
set_option maxRecDepth 100000 in
set_option maxHeartbeats 8000000 in
theorem walk_FnFlipSprite (a0 : Option Addr) (len0 cap0 : Nat) (z0 : List Int) (w : World) (w0 : IsRow .u8 w a0 len0 cap0 z0) :
    Calls Try.prog 7 #[.slice a0 len0 cap0] w fun e w' => e = .returned (.bool true) ∧ Below w.heap.size w w' := by
  have H := Lib.hid w0
  have hl := isRow_len w0
  clear w0
  by_cases hs : len0 ≤ 1048576
  · go_enter Try.func7, Try.ntmps7
    go_wp2_with fail
    refine (draw_spriteAt _ _ _ _ _ H.out).mono ?_; rintro e w1 ⟨A, n, c, S, fs, T, m, d, zs, ft, x, y, rfl, hg⟩
    obtain ⟨n1, hnc, m1, m4, hmd, hs1, ht1, b1⟩ := hg
    have S1 := Lib.hid hs1
    have T1 := Lib.hid ht1
    have B1 := Lib.hid b1
    have HL := Lib.hid hs1.1
    have hn9 : n ≤ 1000000000 := by omega
    have hm9 : m ≤ 1000000000 := by omega
    clear hs1 ht1 b1
    go_wp2_with fail
    refine (spec_sprValid A n c S fs T m d zs ft _ S1.out T1.out hn9 hm9).mono ?_; rintro e w2 ⟨rfl, bl⟩
    obtain ⟨V, hV⟩ : ∃ V, sprB S m zs = V := ⟨_, rfl⟩
    have HV := Lib.hid hV
    rw [hV]
    clear hV
    have S2 := Lib.hid (S1.out.below bl)
    have T2 := Lib.hid (T1.out.below bl)
    have B2 := Lib.hid (below_then B1.out bl)
    clear S1 T1 B1 bl
    cases V
    · go_wp2_with fail
      refine (alive_any _).mono ?_; rintro e w' ⟨rfl, rfl⟩
      go_wp2_with fail
      go_ret
      exact ⟨rfl, B2.out⟩
    · by_cases n0 : n = 0
      · have n0' : (n : Int) = 0 := by omega
        go_wp2_with fail
        refine (alive_any _).mono ?_; rintro e w' ⟨rfl, rfl⟩
        go_wp2_with fail
        go_ret
        exact ⟨rfl, B2.out⟩
      · have n0' : ¬ (n : Int) = 0 := by omega
        have n0b : ((n : Int) == 0) = false := by simp; omega
        have n0c : (0 : Int) < n := by omega
        obtain ⟨p, o, rfl, _, hpl, _⟩ := S2.out.at_ (by omega)
        obtain ⟨pT, oT, rfl, hft, hpT, _⟩ := T2.out.at_ (by omega)
        obtain ⟨s0, hs0⟩ : ∃ s0, S.getD 0 .zero = s0 := ⟨_, rfl⟩
        obtain ⟨z1, hz1e⟩ : ∃ z1, zs.take 64 = z1 := ⟨_, rfl⟩
        have HI1 : Hid (Ints w2 (some ⟨pT, oT, none⟩) (64 * 1) z1 ft) := Lib.hid (by rw [← hz1e]; exact ints_oneT T2.out (by omega))
        have hz1 : z1.length = 64 := HI1.out.1
        have RG : Hid (w2.rangeAt p o (scs s0)) := Lib.hid (by rw [← hs0]; exact spr_range S2.out (k := 0) (by omega))
        have hsok := (sprB_iff.1 HV.out).2.1 0 (by rw [HL.out]; omega)
        have hzv : tilB z1 = true := by rw [← hz1e]; exact tilB_take (sprB_iff.1 HV.out).1
        obtain ⟨fz, hfz⟩ : ∃ fz, flipT z1 true false = fz := ⟨_, rfl⟩
        have HFZ := Lib.hid hfz
        have hfl : fz.length = 64 := by rw [← hfz]; exact flip_len _ _ _
        have hfv : tilB fz = true := by rw [← hfz]; exact flip_valid hz1 hzv _ _
        rw [hs0] at hsok
        obtain ⟨V, hV⟩ : ∃ V, loneR ⟨s0.x, s0.y, 0, true, s0.dn, s0.bh⟩ 1 z1 x y = V := ⟨_, rfl⟩
        have hU : loneR ⟨s0.x, s0.y, 0, false, s0.dn, s0.bh⟩ 1 fz x y = V := by
          rw [← hV, loneR_eq, loneR_eq, lone_ok hsok hzv, lone_ok hsok hfv, val_across (s := ⟨s0.x, s0.y, 0, false, s0.dn, s0.bh⟩) hz1 hzv hfz.symm rfl]
        obtain ⟨r1, r2⟩ := V
        have HRP : Hid (pairV (atR [⟨s0.x, s0.y, 0, true, s0.dn, s0.bh⟩] z1 x y (atT [⟨s0.x, s0.y, 0, true, s0.dn, s0.bh⟩] 1 z1 x y)) = .tuple #[.int .i64 r1, .int .i64 r2]) := Lib.hid (by
          show Value.tuple #[.int .i64 (loneR ⟨s0.x, s0.y, 0, true, s0.dn, s0.bh⟩ 1 z1 x y).1, .int .i64 (loneR ⟨s0.x, s0.y, 0, true, s0.dn, s0.bh⟩ 1 z1 x y).2] = _
          rw [hV])
        have HRU : Hid (pairV (atR [⟨s0.x, s0.y, 0, false, s0.dn, s0.bh⟩] fz x y (atT [⟨s0.x, s0.y, 0, false, s0.dn, s0.bh⟩] 1 fz x y)) = .tuple #[.int .i64 r1, .int .i64 r2]) := Lib.hid (by
          show Value.tuple #[.int .i64 (loneR ⟨s0.x, s0.y, 0, false, s0.dn, s0.bh⟩ 1 fz x y).1, .int .i64 (loneR ⟨s0.x, s0.y, 0, false, s0.dn, s0.bh⟩ 1 fz x y).2] = _
          rw [hU])
        have HSL : Hid (∀ wq, (Instr.slice 24 (.slice (some ⟨pT, oT, none⟩) m d) (some (.int .i64 0)) (some (.int .i64 1)) none).run Try.prog wq = .ok (.slice (some ⟨pT, oT, none⟩) 1 d) wq) := Lib.hid fun wq => run_til01 wq pT oT m d m1 hmd
        have HSN : Hid (∀ wq, (Instr.slice 24 (.slice (some ⟨pT, oT, none⟩) m d) none (some (.int .i64 1)) none).run Try.prog wq = .ok (.slice (some ⟨pT, oT, none⟩) 1 d) wq) := Lib.hid fun wq => run_til1 wq pT oT m d m1 hmd
        have m1' : (0 : Int) < m := by omega
        clear hsok hV hU hfz hfv hzv hz1e hs0 hft hpT S2 T2 HV
        go_upto_region 7 with (first
          | (refine sp_loadm (by rfl) _ rfl p o rfl s0 RG.out ?_)
          | (refine sp_store (by rfl) _ _ rfl w2.heap.size rfl s0 rfl _ (Box.new w2 _ _) rfl ?_))
        obtain ⟨q, hq⟩ : ∃ q, q = w2.heap.size := ⟨_, rfl⟩
        obtain ⟨w6, hw6⟩ : ∃ w6, w6 = (w2.alloc (.cells #[.int .i64 0, .int .i64 0, .int .i64 0, .bool false, .bool false, .bool false] 29)).setRow w2.heap.size (scs s0).toArray := ⟨_, rfl⟩
        have XQ : Hid (Box w6 q 29 (scs s0)) := Lib.hid (by rw [hw6, hq]; exact Box.row (spr_new w2 .zero))
        have BQ : Hid (Below w2.heap.size w2 w6) := Lib.hid (by rw [hw6]; exact below_spr w2 s0)
        have hq2 : w2.heap.size ≤ q := by omega
        rw [← hw6, ← hq]
        clear hw6 hq RG hpl
        have cq2 : w6.cell? ⟨q, 2, none⟩ = some (.int .i64 s0.n) := XQ.out.cell 2
        have cq3 : w6.cell? ⟨q, 3, none⟩ = some (.bool s0.ac) := XQ.out.cell 3
        have fq := XQ.out.frozen
        go_upto_region 9 with (fail)
        obtain ⟨w8, hw8⟩ : ∃ w8, w8 = (w6.setCell ⟨q, 2, none⟩ (.int .i64 0)).setCell ⟨q, 3, none⟩ (.bool true) := ⟨_, rfl⟩
        have XP : Hid (Box w8 q 29 (scs ⟨s0.x, s0.y, 0, true, s0.dn, s0.bh⟩)) := Lib.hid (by rw [hw8]; exact (XQ.out.set 2 _).set 3 _)
        have BP : Hid (Below w2.heap.size w2 w8) := Lib.hid (by rw [hw8]; exact (BQ.out.setCell (by exact hq2) _).setCell (by exact hq2) _)
        rw [← hw8]
        clear hw8 cq2 cq3 fq XQ BQ
        go_upto_region 10 with (first
          | (refine sp_load (by rfl) _ rfl q rfl ⟨s0.x, s0.y, 0, true, s0.dn, s0.bh⟩ XP.out ?_)
          | (refine sp_store (by rfl) _ _ rfl w8.heap.size rfl ⟨s0.x, s0.y, 0, true, s0.dn, s0.bh⟩ rfl _ (Box.new w8 _ _) rfl ?_))
        obtain ⟨r, hr⟩ : ∃ r, r = w8.heap.size := ⟨_, rfl⟩
        have hqr : q < r := by rw [hr]; exact XP.out.lt
        have hr2 : w2.heap.size ≤ r := by omega
        obtain ⟨w9, hw9⟩ : ∃ w9, w9 = (w8.alloc (.cells #[.int .i64 0, .int .i64 0, .int .i64 0, .bool false, .bool false, .bool false] 29)).setRow w8.heap.size (scs ⟨s0.x, s0.y, 0, true, s0.dn, s0.bh⟩).toArray := ⟨_, rfl⟩
        have XO : Hid (Box w9 r 29 (scs ⟨s0.x, s0.y, 0, true, s0.dn, s0.bh⟩)) := Lib.hid (by rw [hw9, hr]; exact Box.row (spr_new w8 .zero))
        have BO : Hid (Below w8.heap.size w8 w9) := Lib.hid (by rw [hw9]; exact below_spr w8 _)
        have XQ9 := Lib.hid (XP.out.below BO.out)
        have B9 := Lib.hid (below_trans BP.out BO.out BP.out.size)
        rw [← hw9, ← hr]
        clear hw9 hr XP BP BO
        have cr3 : w9.cell? ⟨r, 3, none⟩ = some (.bool true) := XO.out.cell 3
        have fr := XO.out.frozen
        go_upto_region 11 with (fail)
        obtain ⟨wa, hwa⟩ : ∃ wa, wa = w9.setCell ⟨r, 3, none⟩ (.bool false) := ⟨_, rfl⟩
        have XR : Hid (Box wa r 29 (scs ⟨s0.x, s0.y, 0, false, s0.dn, s0.bh⟩)) := Lib.hid (by rw [hwa]; exact XO.out.set 3 _)
        have XQ : Hid (Box wa q 29 (scs ⟨s0.x, s0.y, 0, true, s0.dn, s0.bh⟩)) := Lib.hid (by rw [hwa]; exact XQ9.out.far (by omega) _)
        have BA : Hid (Below w2.heap.size w2 wa) := Lib.hid (by rw [hwa]; exact B9.out.setCell (by exact hr2) _)
        have HI1 := Lib.hid (HI1.out.below BA.out)
        have BA := Lib.hid (below_then B2.out BA.out)
        rw [← hwa]
        clear hwa cr3 fr XO XQ9 B9 B2
        refine wp_region_typed (ClB wa) RlB (Ty [TV (sprV ⟨s0.x, s0.y, 0, true, s0.dn, s0.bh⟩), TSpr ⟨s0.x, s0.y, 0, true, s0.dn, s0.bh⟩, TV (.slice (some ⟨pT, oT, none⟩) m d), TV (.pointer (some ⟨q, 2, none⟩)), TV (.int .i64 0), TV (.pointer (some ⟨q, 2, none⟩)), TV (.int .i64 0), TV (.int .i64 1), TV (.slice (some ⟨pT, oT, none⟩) 1 d), TV (.int .i64 x), TV (.int .i64 y), TV (.tuple #[.int .i64 r1, .int .i64 r2]), TV (.tuple #[.int .i64 r1, .int .i64 r2]), TV (.int .i64 r1), TV (.int .i64 r2), TV (.int .i64 r1), TV (.int .i64 r2)])
          (by kernel_rfl) (by kernel_rfl) (stab_ty _ ⟨stabB_k _, stabB_spr _, stabB_k _, stabB_k _, stabB_k _, stabB_k _, stabB_k _, stabB_k _, stabB_k _, stabB_k _, stabB_k _, stabB_k _, stabB_k _, stabB_k _, stabB_k _, stabB_k _, stabB_k _, trivial⟩) (Below.refl _ _).drew ?_ ?_
        · refine ⟨?_, ?_, ?_, ?_, ?_, ?_, ?_, ?_, ?_, ?_, ?_, ?_, ?_, ?_, ?_, ?_, ?_, trivial⟩
          · refine lb_spr (.tmp 7) q ⟨s0.x, s0.y, 0, true, s0.dn, s0.bh⟩ rfl XQ.out (fun _ _ _ => want_none rfl) fun ρ wx hx hp => ⟨hx 7 rfl, rfl⟩
          · exact lb_lits (.tmp 43) ⟨s0.x, s0.y, 0, true, s0.dn, s0.bh⟩ rfl (fun _ _ _ => want_none rfl) (fun ρ wx hp => hp.1 rfl) (fun _ _ h => h)
          · exact lb_move (.tmp 4) (.inl rfl) (fun _ _ _ => want_none rfl) fun ρ wx hc hx hp => hx 4 rfl
          · refine lb_val (.pointer (some ⟨q, 2, none⟩)) (fun _ _ _ => want_none rfl) fun ρ wx hb hc hx hp => ⟨?_, rfl⟩
            have h7 : ρ (.tmp 7) = .pointer (some ⟨q, 0, none⟩) := hx 7 rfl
            unfold execOp
            simp only [h7]
            clear h7 hx hp hc hb
            go_simp
          · refine lb_val (.int .i64 0) (fun _ _ _ => want_none rfl) fun ρ wx hb hc hx hp => ⟨?_, rfl⟩
            have h46 : ρ (.tmp 46) = .pointer (some ⟨q, 2, none⟩) := hp.1 rfl
            have c1 : wx.cell? ⟨q, 2, none⟩ = some (.int .i64 0) := (XQ.out.below hb).cell 2
            unfold execOp
            simp only [h46]
            clear h46 hx hp hc hb
            go_simp
          · refine lb_val (.pointer (some ⟨q, 2, none⟩)) (fun _ _ _ => want_none rfl) fun ρ wx hb hc hx hp => ⟨?_, rfl⟩
            have h7 : ρ (.tmp 7) = .pointer (some ⟨q, 0, none⟩) := hx 7 rfl
            unfold execOp
            simp only [h7]
            clear h7 hx hp hc hb
            go_simp
          · refine lb_val (.int .i64 0) (fun _ _ _ => want_none rfl) fun ρ wx hb hc hx hp => ⟨?_, rfl⟩
            have h48 : ρ (.tmp 48) = .pointer (some ⟨q, 2, none⟩) := hp.1 rfl
            have c1 : wx.cell? ⟨q, 2, none⟩ = some (.int .i64 0) := (XQ.out.below hb).cell 2
            unfold execOp
            simp only [h48]
            clear h48 hx hp hc hb
            go_simp
          · refine lb_val (.int .i64 1) (fun _ _ _ => want_none rfl) fun ρ wx hb hc hx hp => ⟨?_, rfl⟩
            have h49 : ρ (.tmp 49) = .int .i64 0 := hp.1 rfl
            have hc0 := hc (.int .i64 1)
            have hw1 : IntKind.i64.wrap 1 = 1 := by decide
            unfold execOp
            simp only [h49, hc0]
            clear h49 hc0 hx hp hc hb
            go_simp
          · refine lb_val (.slice (some ⟨pT, oT, none⟩) 1 d) (fun _ _ _ => want_none rfl) fun ρ wx hb hc hx hp => ⟨?_, rfl⟩
            have h45 : ρ (.tmp 45) = .slice (some ⟨pT, oT, none⟩) m d := hp.1 rfl
            have h47 : ρ (.tmp 47) = .int .i64 0 := hp.2.1 rfl
            have h50 : ρ (.tmp 50) = .int .i64 1 := hp.2.2.1 rfl
            have hsl := HSL.out wx
            unfold execOp
            simp only [h45, h47, h50, Option.map_some, Option.map_none]
            clear h45 h47 h50 hx hp hc hb
            go_simp
          · exact lb_move (.tmp 5) (.inl rfl) (fun _ _ _ => want_none rfl) fun ρ wx hc hx hp => hx 5 rfl
          · exact lb_move (.tmp 6) (.inl rfl) (fun _ _ _ => want_none rfl) fun ρ wx hc hx hp => hx 6 rfl
          · refine lb_call _ _ _ (fun _ _ => by simp [go_sem]) rfl (fun _ _ _ => want_none rfl) fun ρ wx hb hc hp => ?_
            obtain ⟨b, h0, hi⟩ : TSpr ⟨s0.x, s0.y, 0, true, s0.dn, s0.bh⟩ (ρ (.tmp 44)) wx := hp.1 rfl
            have h1 : ρ (.tmp 51) = .slice (some ⟨pT, oT, none⟩) 1 d := hp.2.1 rfl
            have h2 : ρ (.tmp 52) = .int .i64 x := hp.2.2.1 rfl
            have h3 : ρ (.tmp 53) = .int .i64 y := hp.2.2.2.1 rfl
            refine ⟨_, by simp only [List.map_toArray, List.map_cons, List.map_nil, h0, h1, h2, h3], (im_at (some ⟨b, 0, none⟩) 1 1 [⟨s0.x, s0.y, 0, true, s0.dn, s0.bh⟩] [b] (some ⟨pT, oT, none⟩) 1 d z1 ft x y wx hi (HI1.out.below hb) (by omega) (by omega)).mono ?_⟩
            rintro e w' ⟨rfl, bl⟩
            exact ⟨_, rfl, bl, HRP.out⟩
          · exact lb_move (.tmp 54) (.inl rfl) (fun _ _ _ => want_none rfl) fun ρ wx hc hx hp => hp.1 rfl
          · refine lb_val (.int .i64 r1) (fun _ _ _ => want_none rfl) fun ρ wx hb hc hx hp => ⟨?_, rfl⟩
            have h42 : ρ (.tmp 42) = .tuple #[.int .i64 r1, .int .i64 r2] := hp.1 rfl
            unfold execOp
            simp only [h42]
            clear h42 hx hp hc hb
            go_simp
          · refine lb_val (.int .i64 r2) (fun _ _ _ => want_none rfl) fun ρ wx hb hc hx hp => ⟨?_, rfl⟩
            have h42 : ρ (.tmp 42) = .tuple #[.int .i64 r1, .int .i64 r2] := hp.1 rfl
            unfold execOp
            simp only [h42]
            clear h42 hx hp hc hb
            go_simp
          · exact lb_move (.tmp 55) (.inr rfl) (fun _ _ _ => want_none rfl) fun ρ wx hc hx hp => hp.1 rfl
          · exact lb_move (.tmp 56) (.inr rfl) (fun _ _ _ => want_none rfl) fun ρ wx hc hx hp => hp.1 rfl
        intro vs wx hI hF
        obtain ⟨-, -, -, -, -, -, -, -, -, -, -, -, -, -, -, h18, h19, -⟩ := hF
        replace h18 : vs 15 = .int .i64 r1 := h18
        replace h19 : vs 16 = .int .i64 r2 := h19
        have HI : Hid (Below wa.heap.size wa wx) := hI
        simp only [putAll, Act.put, List.setIfInBounds_toArray, List.set_cons_zero, List.set_cons_succ, h18, h19]
        clear hI h18 h19
        have XR := Lib.hid (XR.out.below HI.out)
        have XQ := Lib.hid (XQ.out.below HI.out)
        have HI1 := Lib.hid (HI1.out.below HI.out)
        have BA := Lib.hid (below_then BA.out HI.out)
        clear HI
        go_wp2_with fail
        refine wp_region_typed (ClB wx) RlB (Ty [TV (sprV ⟨s0.x, s0.y, 0, false, s0.dn, s0.bh⟩), TSpr ⟨s0.x, s0.y, 0, false, s0.dn, s0.bh⟩, TV (.slice (some ⟨pT, oT, none⟩) m d), TV (.pointer (some ⟨pT, oT, none⟩)), TV (tilV z1), TV (tilV fz), TTil fz, TV (.int .i64 x), TV (.int .i64 y), TV (.tuple #[.int .i64 r1, .int .i64 r2]), TV (.tuple #[.int .i64 r1, .int .i64 r2]), TV (.int .i64 r1), TV (.int .i64 r2), TV (.int .i64 r1), TV (.int .i64 r2)])
          (by kernel_rfl) (by kernel_rfl) (stab_ty _ ⟨stabB_k _, stabB_spr _, stabB_k _, stabB_k _, stabB_k _, stabB_k _, stabB_til1 _, stabB_k _, stabB_k _, stabB_k _, stabB_k _, stabB_k _, stabB_k _, stabB_k _, stabB_k _, trivial⟩) (Below.refl _ _).drew ?_ ?_
        · refine ⟨?_, ?_, ?_, ?_, ?_, ?_, ?_, ?_, ?_, ?_, ?_, ?_, ?_, ?_, ?_, trivial⟩
          · refine lb_spr (.tmp 8) r ⟨s0.x, s0.y, 0, false, s0.dn, s0.bh⟩ rfl XR.out (fun _ _ _ => want_none rfl) fun ρ wy hx hp => ⟨hx 8 rfl, rfl⟩
          · exact lb_lits (.tmp 58) ⟨s0.x, s0.y, 0, false, s0.dn, s0.bh⟩ rfl (fun _ _ _ => want_none rfl) (fun ρ wy hp => hp.1 rfl) (fun _ _ h => h)
          · exact lb_move (.tmp 4) (.inl rfl) (fun _ _ _ => want_none rfl) fun ρ wy hc hx hp => hx 4 rfl
          · refine lb_val (.pointer (some ⟨pT, oT, none⟩)) (fun _ _ _ => want_none rfl) fun ρ wy hb hc hx hp => ⟨?_, rfl⟩
            have h60 : ρ (.tmp 60) = .slice (some ⟨pT, oT, none⟩) m d := hp.1 rfl
            have hc0 := hc (.int .i64 0)
            have hm0 : ¬ m = 0 := by omega
            unfold execOp
            simp only [h60, hc0]
            clear h60 hc0 hx hp hc hb
            go_simp
          · refine lb_tilm (.tmp 61) pT oT z1 rfl hz1 (fun wq hq => ints_range (HI1.out.below hq)) (fun _ _ _ => want_none rfl) fun ρ wy hx hp => ⟨hp.1 rfl, rfl⟩
          · refine lb_known _ _ _ (tilV fz) (fun _ _ => by simp [go_sem]) rfl (fun _ _ _ => want_none rfl) #[tilV z1, .bool true, .bool false] (fun wq hb => ?_) (fun ρ wy hc hx hp => ?_) (fun _ => rfl)
            · rw [← HFZ.out]
              exact im_flip z1 true false hz1 wq
            · have h0 : ρ (.tmp 62) = tilV z1 := hp.1 rfl
              have h1 := hc (.bool true)
              have h2 := hc (.bool false)
              simp only [List.map_toArray, List.map_cons, List.map_nil, h0, h1, h2]
          · exact lb_litt (.tmp 63) fz hfl rfl (fun _ _ _ => want_none rfl) (fun ρ wy hp => hp.1 rfl) (fun _ _ h => h)
          · exact lb_move (.tmp 5) (.inl rfl) (fun _ _ _ => want_none rfl) fun ρ wy hc hx hp => hx 5 rfl
          · exact lb_move (.tmp 6) (.inl rfl) (fun _ _ _ => want_none rfl) fun ρ wy hc hx hp => hx 6 rfl
          · refine lb_call _ _ _ (fun _ _ => by simp [go_sem]) rfl (fun _ _ _ => want_none rfl) fun ρ wy hb hc hp => ?_
            obtain ⟨b, h0, hi⟩ : TSpr ⟨s0.x, s0.y, 0, false, s0.dn, s0.bh⟩ (ρ (.tmp 59)) wy := hp.1 rfl
            obtain ⟨bt, h1, ht⟩ : TTil fz (ρ (.tmp 64)) wy := hp.2.1 rfl
            have h2 : ρ (.tmp 65) = .int .i64 x := hp.2.2.1 rfl
            have h3 : ρ (.tmp 66) = .int .i64 y := hp.2.2.2.1 rfl
            refine ⟨_, by simp only [List.map_toArray, List.map_cons, List.map_nil, h0, h1, h2, h3], (im_at (some ⟨b, 0, none⟩) 1 1 [⟨s0.x, s0.y, 0, false, s0.dn, s0.bh⟩] [b] (some ⟨bt, 0, none⟩) 1 1 fz [bt] x y wy hi ht (by omega) (by omega)).mono ?_⟩
            rintro e w' ⟨rfl, bl⟩
            exact ⟨_, rfl, bl, HRU.out⟩
          · exact lb_move (.tmp 67) (.inl rfl) (fun _ _ _ => want_none rfl) fun ρ wy hc hx hp => hp.1 rfl
          · refine lb_val (.int .i64 r1) (fun _ _ _ => want_none rfl) fun ρ wy hb hc hx hp => ⟨?_, rfl⟩
            have h57 : ρ (.tmp 57) = .tuple #[.int .i64 r1, .int .i64 r2] := hp.1 rfl
            unfold execOp
            simp only [h57]
            clear h57 hx hp hc hb
            go_simp
          · refine lb_val (.int .i64 r2) (fun _ _ _ => want_none rfl) fun ρ wy hb hc hx hp => ⟨?_, rfl⟩
            have h57 : ρ (.tmp 57) = .tuple #[.int .i64 r1, .int .i64 r2] := hp.1 rfl
            unfold execOp
            simp only [h57]
            clear h57 hx hp hc hb
            go_simp
          · exact lb_move (.tmp 68) (.inr rfl) (fun _ _ _ => want_none rfl) fun ρ wy hc hx hp => hp.1 rfl
          · exact lb_move (.tmp 69) (.inr rfl) (fun _ _ _ => want_none rfl) fun ρ wy hc hx hp => hp.1 rfl
        intro vs wy hI hF
        obtain ⟨-, -, -, -, -, -, -, -, -, -, -, -, -, h18, h19, -⟩ := hF
        replace h18 : vs 13 = .int .i64 r1 := h18
        replace h19 : vs 14 = .int .i64 r2 := h19
        have HI : Hid (Below wx.heap.size wx wy) := hI
        simp only [putAll, Act.put, List.setIfInBounds_toArray, List.set_cons_zero, List.set_cons_succ, h18, h19]
        clear hI h18 h19
        have XQ := Lib.hid (XQ.out.below HI.out)
        have HI1 := Lib.hid (HI1.out.below HI.out)
        have BA := Lib.hid (below_then BA.out HI.out)
        clear HI
        go_wp2_with fail
        refine wp_region_typed (ClB wy) RlB (Ty [TV (sprV ⟨s0.x, s0.y, 0, true, s0.dn, s0.bh⟩), TSpr ⟨s0.x, s0.y, 0, true, s0.dn, s0.bh⟩, TV (.slice (some ⟨pT, oT, none⟩) m d), TV (.slice (some ⟨pT, oT, none⟩) 1 d), TV (.int .i64 x), TV (.int .i64 y), TV (.tuple #[.int .i64 r1, .int .i64 r2]), TV (.tuple #[.int .i64 r1, .int .i64 r2]), TV (.int .i64 r1), TV (.int .i64 r2), TV (.int .i64 r1), TV (.int .i64 r2)])
          (by kernel_rfl) (by kernel_rfl) (stab_ty _ ⟨stabB_k _, stabB_spr _, stabB_k _, stabB_k _, stabB_k _, stabB_k _, stabB_k _, stabB_k _, stabB_k _, stabB_k _, stabB_k _, stabB_k _, trivial⟩) (Below.refl _ _).drew ?_ ?_
        · refine ⟨?_, ?_, ?_, ?_, ?_, ?_, ?_, ?_, ?_, ?_, ?_, ?_, trivial⟩
          · refine lb_spr (.tmp 7) q ⟨s0.x, s0.y, 0, true, s0.dn, s0.bh⟩ rfl XQ.out (fun _ _ _ => want_none rfl) fun ρ wz hx hp => ⟨hx 7 rfl, rfl⟩
          · exact lb_lits (.tmp 71) ⟨s0.x, s0.y, 0, true, s0.dn, s0.bh⟩ rfl (fun _ _ _ => want_none rfl) (fun ρ wz hp => hp.1 rfl) (fun _ _ h => h)
          · exact lb_move (.tmp 4) (.inl rfl) (fun _ _ _ => want_none rfl) fun ρ wz hc hx hp => hx 4 rfl
          · refine lb_val (.slice (some ⟨pT, oT, none⟩) 1 d) (fun _ _ _ => want_none rfl) fun ρ wz hb hc hx hp => ⟨?_, rfl⟩
            have h73 : ρ (.tmp 73) = .slice (some ⟨pT, oT, none⟩) m d := hp.1 rfl
            have hc0 := hc (.int .i64 1)
            have hsl := HSN.out wz
            unfold execOp
            simp only [h73, hc0, Option.map_some, Option.map_none]
            clear h73 hc0 hx hp hc hb
            go_simp
          · exact lb_move (.tmp 5) (.inl rfl) (fun _ _ _ => want_none rfl) fun ρ wz hc hx hp => hx 5 rfl
          · exact lb_move (.tmp 6) (.inl rfl) (fun _ _ _ => want_none rfl) fun ρ wz hc hx hp => hx 6 rfl
          · refine lb_call _ _ _ (fun _ _ => by simp [go_sem]) rfl (fun _ _ _ => want_none rfl) fun ρ wz hb hc hp => ?_
            obtain ⟨b, h0, hi⟩ : TSpr ⟨s0.x, s0.y, 0, true, s0.dn, s0.bh⟩ (ρ (.tmp 72)) wz := hp.1 rfl
            have h1 : ρ (.tmp 74) = .slice (some ⟨pT, oT, none⟩) 1 d := hp.2.1 rfl
            have h2 : ρ (.tmp 75) = .int .i64 x := hp.2.2.1 rfl
            have h3 : ρ (.tmp 76) = .int .i64 y := hp.2.2.2.1 rfl
            refine ⟨_, by simp only [List.map_toArray, List.map_cons, List.map_nil, h0, h1, h2, h3], (spec_at (some ⟨b, 0, none⟩) 1 1 [⟨s0.x, s0.y, 0, true, s0.dn, s0.bh⟩] [b] (some ⟨pT, oT, none⟩) 1 d z1 ft x y wz hi (HI1.out.below hb) (by omega) (by omega)).mono ?_⟩
            rintro e w' ⟨rfl, bl⟩
            exact ⟨_, rfl, bl, HRP.out⟩
          · exact lb_move (.tmp 77) (.inl rfl) (fun _ _ _ => want_none rfl) fun ρ wz hc hx hp => hp.1 rfl
          · refine lb_val (.int .i64 r1) (fun _ _ _ => want_none rfl) fun ρ wz hb hc hx hp => ⟨?_, rfl⟩
            have h70 : ρ (.tmp 70) = .tuple #[.int .i64 r1, .int .i64 r2] := hp.1 rfl
            unfold execOp
            simp only [h70]
            clear h70 hx hp hc hb
            go_simp
          · refine lb_val (.int .i64 r2) (fun _ _ _ => want_none rfl) fun ρ wz hb hc hx hp => ⟨?_, rfl⟩
            have h70 : ρ (.tmp 70) = .tuple #[.int .i64 r1, .int .i64 r2] := hp.1 rfl
            unfold execOp
            simp only [h70]
            clear h70 hx hp hc hb
            go_simp
          · exact lb_move (.tmp 78) (.inr rfl) (fun _ _ _ => want_none rfl) fun ρ wz hc hx hp => hp.1 rfl
          · exact lb_move (.tmp 79) (.inr rfl) (fun _ _ _ => want_none rfl) fun ρ wz hc hx hp => hp.1 rfl
        intro vs wz hI hF
        obtain ⟨-, -, -, -, -, -, -, -, -, -, h18, h19, -⟩ := hF
        replace h18 : vs 10 = .int .i64 r1 := h18
        replace h19 : vs 11 = .int .i64 r2 := h19
        have HI : Hid (Below wy.heap.size wy wz) := hI
        simp only [putAll, Act.put, List.setIfInBounds_toArray, List.set_cons_zero, List.set_cons_succ, h18, h19]
        clear hI h18 h19
        have BA := Lib.hid (below_then BA.out HI.out)
        go_wp2_with fail
        go_ret
        exact ⟨rfl, BA.out⟩
  · have hs' : 1048576 < len0 := by omega
    go_enter Try.func7, Try.ntmps7
    go_wp2_with fail
    go_ret
    exact ⟨rfl, Below.refl _ _⟩
end Go.Proofs.Ytpmeppknbpoibaa
