/- Laws of chapter 11 on lists that grow, walked. -/
import Derived.Test.YtpmeppknbpoibaaSprU
import Derived.Test.YtpmeppknbpoibaaSprT
import Derived.Test.YtpmeppknbpoibaaGA
import Derived.Deep.DeepCutAuto
namespace Go.Proofs.Ytpmeppknbpoibaa
open Go.ChangeShapes Go.WideShapes Go.ChangeAt Go.RowKit
set_option linter.unusedVariables false

theorem sprs_take {w : World} {A : Option Addr} {n : Nat} {S : List Spr} {fp : List Nat} (h : Sprs w A n S fp) {q : Nat} (hq : q ≤ n) : ∃ fq, Sprs w A q (S.take q) fq := by
  by_cases h0 : q = 0
  · subst h0; exact ⟨[], by simpa using Sprs.nil w A⟩
  · obtain ⟨p, o, rfl, _, _, _⟩ := h.at_ (by omega)
    have := h.part 0 q (by omega) (by omega)
    exact ⟨fp, by simpa using this⟩
theorem wpList_append_sprsG {w : World} {ops : Array Oper} {rest : List Oper} {o : Oper} {a : Act} {Q : Exit → Act → World → Prop} (hw : Region.wanted o (yielded ops a.tmps) = true) (s x : Operand) (ho : o.op = .call { callee := .builtin .append, args := #[s, x], argTypes := #[23, 23] })
    (base : Nat) (v : Value) (n : Nat) (xs : List Spr) (hs : a.eval s = v) (hown : w.ownsRow base 29 6 v n (svs xs)) (A : Option Addr) (m c : Nat) (ys : List Spr) (fp : List Nat) (hx : a.eval x = .slice A m c) (hi : Sprs w A m ys fp) (hb : n + m ≤ 1000000000) (hbase : base ≤ w.heap.size)
    (h : ∀ v' w', w'.ownsRow base 29 6 v' (n + m) (svs (xs ++ ys)) → w.grownBy w' v.ownBlock → (v'.ownBlock = v.ownBlock ∨ v'.ownBlock = some w.heap.size) → wpList Try.prog ops Q rest (a.put o.dst v') w') : wpList Try.prog ops Q (o :: rest) a w :=
  wpList_step fun K hK => by
    rw [if_pos hw]
    exact wp_append_sprs s x ho base v n xs hs hown A m c ys fp hx hi hb hbase fun v' w' h2 h3 h4 => hK _ _ (h v' w' h2 h3 h4)
set_option maxRecDepth 100000 in
set_option maxHeartbeats 8000000 in
theorem walk_FnSpritesValid (a0 : Option Addr) (len0 cap0 : Nat) (z0 : List Int) (w : World) (w0 : IsRow .u8 w a0 len0 cap0 z0) :
    Calls Try.prog 3 #[.slice a0 len0 cap0] w fun e w' => e = .returned (.bool true) ∧ Below w.heap.size w w' := by
  have H := Lib.hid w0
  have hl := isRow_len w0
  clear w0
  by_cases hs : len0 ≤ 1048576
  · go_enter Try.func3, Try.ntmps3
    go_wp2_with fail
    refine (draw_spritesValid _ _ _ _ _ H.out).mono ?_; rintro e w1 ⟨A, n, c, S, fs, T, m, d, zs, ft, rfl, hg⟩
    obtain ⟨n1, hnc, m1, m4, hmd, hs1, ht1, b1⟩ := hg
    have S1 := Lib.hid hs1
    have T1 := Lib.hid ht1
    have B1 := Lib.hid b1
    have HL := Lib.hid hs1.1
    have hn9 : n ≤ 1000000000 := by omega
    have hm9 : m ≤ 1000000000 := by omega
    clear hs1 ht1 b1
    go_wp2_with fail
    refine (im_sprValid A n c S fs T m d zs ft _ S1.out T1.out hn9 hm9).mono ?_; rintro e w2 ⟨rfl, bl⟩
    obtain ⟨V, hV⟩ : ∃ V, sprB S m zs = V := ⟨_, rfl⟩
    have HV := Lib.hid hV
    rw [hV]
    clear hV
    have S2 := Lib.hid (S1.out.below bl)
    have T2 := Lib.hid (T1.out.below bl)
    have B2 := Lib.hid (below_then B1.out bl)
    clear S1 T1 B1 bl
    go_wp2_with fail
    refine (spec_sprValid A n c S fs T m d zs ft _ S2.out T2.out hn9 hm9).mono ?_; rintro e w3 ⟨rfl, bl⟩
    rw [HV.out]
    have S3 := Lib.hid (S2.out.below bl)
    have T3 := Lib.hid (T2.out.below bl)
    have B3 := Lib.hid (below_then B2.out bl)
    clear S2 T2 B2 bl
    obtain ⟨sn, hsn⟩ : ∃ sn : Spr, sn = ⟨0, 0, m, false, false, false⟩ := ⟨_, rfl⟩
    have HU : Hid (sprB (S ++ [sn]) m zs = false) := Lib.hid (spr_unknown (by rw [hsn]))
    cases V
    · subst hsn
      go_wp2_with (first
      | (refine wpList_append_sprsG (by rfl) _ _ rfl w3.heap.size (.slice (some ⟨w3.heap.size, 0, none⟩) 0 0) 0 [] rfl (own_empty6 w3 _ _ (Nat.le_refl _)) A n c S fs rfl (S3.out.below (below1 w3 _)) (by omega) (by simp) ?_; intro v1 wy own1 gr1 _; have O1 := Lib.hid own1; have BY : Hid (Below w3.heap.size w3 wy) := Lib.hid (below_grown2 (below1 w3 _) gr1 (fun q hq => by have := (own_block (own_empty6 w3 29 w3.heap.size (Nat.le_refl _)) q hq).1; exact this) (Nat.le_refl _)); have hyl := BY.out.size; clear own1 gr1)
      | (refine wpList_append_sprsG (by rfl) _ _ rfl w3.heap.size v1 (0 + n) ([] ++ S) rfl (own_keep_any O1.out (below1 wy _)) _ 1 1 [⟨0, 0, m, false, false, false⟩] [wy.heap.size] rfl (lone_spr wy ⟨0, 0, m, false, false, false⟩) (by omega) (by simp; omega) ?_; intro v2 wz own2 gr2 _; obtain ⟨A3, c3, f3, rfl, hc3, hs3, _, _⟩ := own_sprs own2; have SZ := Lib.hid hs3; have BZ : Hid (Below w3.heap.size w3 wz) := Lib.hid (below_grown2 (BY.out.alloc BY.out.size _) gr2 (fun q hq => (own_block O1.out q hq).1) (Nat.le_refl _)); clear own2 gr2 hs3))
      rw [Nat.zero_add, List.nil_append] at SZ
      refine (im_sprValid A3 (n + 1) c3 (S ++ [⟨0, 0, m, false, false, false⟩]) f3 T m d zs ft _ SZ.out (T3.out.below BZ.out) (by omega) hm9).mono ?_; rintro e w9 ⟨rfl, bl⟩
      rw [HU.out]
      have B9 := Lib.hid (below_then B3.out (below_then BZ.out bl))
      clear bl
      go_wp2_with fail
      refine (alive_any _).mono ?_; rintro e w' ⟨rfl, rfl⟩
      go_wp2_with fail
      go_ret
      exact ⟨rfl, B9.out⟩
    · have hq2 : n / 2 ≤ n := by omega
      obtain ⟨q, hq⟩ : ∃ q, n / 2 = q := ⟨_, rfl⟩
      rw [hq] at hq2
      have hqt : (n : Int).tdiv 2 = (q : Int) := by rw [Int.tdiv_eq_ediv_of_nonneg (by omega)]; omega
      have hqc : (q : Int) ≤ c := by omega
      have hq0 : 0 ≤ (q : Int) := by omega
      obtain ⟨fq, hsq⟩ := sprs_take S3.out hq2
      have SQ := Lib.hid hsq
      have HP : Hid (sprB (S.take q) m zs = true) := Lib.hid (by have := spr_part HV.out 0 q; simpa using this)
      clear hsq hq
      go_wp2_with fail
      refine (im_sprValid A q c (S.take q) fq T m d zs ft _ SQ.out T3.out (by omega) hm9).mono ?_; rintro e w4 ⟨rfl, bl⟩
      rw [HP.out]
      clear hqt hqc hq0 SQ
      subst hsn
      have S4 := Lib.hid (S3.out.below bl)
      have T4 := Lib.hid (T3.out.below bl)
      have B4 := Lib.hid (below_then B3.out bl)
      clear S3 T3 B3 bl
      go_wp2_with (first
      | (refine wpList_append_sprsG (by rfl) _ _ rfl w4.heap.size (.slice (some ⟨w4.heap.size, 0, none⟩) 0 0) 0 [] rfl (own_empty6 w4 _ _ (Nat.le_refl _)) A n c S fs rfl (S4.out.below (below1 w4 _)) (by omega) (by simp) ?_; intro v1 wy own1 gr1 _; have O1 := Lib.hid own1; have BY : Hid (Below w4.heap.size w4 wy) := Lib.hid (below_grown2 (below1 w4 _) gr1 (fun q hq => by have := (own_block (own_empty6 w4 29 w4.heap.size (Nat.le_refl _)) q hq).1; exact this) (Nat.le_refl _)); have hyl := BY.out.size; clear own1 gr1)
      | (refine wpList_append_sprsG (by rfl) _ _ rfl w4.heap.size v1 (0 + n) ([] ++ S) rfl (own_keep_any O1.out (below1 wy _)) _ 1 1 [⟨0, 0, m, false, false, false⟩] [wy.heap.size] rfl (lone_spr wy ⟨0, 0, m, false, false, false⟩) (by omega) (by simp; omega) ?_; intro v2 wz own2 gr2 _; obtain ⟨A3, c3, f3, rfl, hc3, hs3, _, _⟩ := own_sprs own2; have SZ := Lib.hid hs3; have BZ : Hid (Below w4.heap.size w4 wz) := Lib.hid (below_grown2 (BY.out.alloc BY.out.size _) gr2 (fun q hq => (own_block O1.out q hq).1) (Nat.le_refl _)); clear own2 gr2 hs3))
      rw [Nat.zero_add, List.nil_append] at SZ
      refine (im_sprValid A3 (n + 1) c3 (S ++ [⟨0, 0, m, false, false, false⟩]) f3 T m d zs ft _ SZ.out (T4.out.below BZ.out) (by omega) hm9).mono ?_; rintro e w9 ⟨rfl, bl⟩
      rw [HU.out]
      have B9 := Lib.hid (below_then B4.out (below_then BZ.out bl))
      clear bl
      go_wp2_with fail
      refine (alive_any _).mono ?_; rintro e w' ⟨rfl, rfl⟩
      go_wp2_with fail
      go_ret
      exact ⟨rfl, B9.out⟩
  · have hs' : 1048576 < len0 := by omega
    go_enter Try.func3, Try.ntmps3
    go_wp2_with fail
    go_ret
    exact ⟨rfl, Below.refl _ _⟩
set_option maxRecDepth 100000 in
set_option maxHeartbeats 8000000 in
theorem walk_FnSpriteLast (a0 : Option Addr) (len0 cap0 : Nat) (z0 : List Int) (w : World) (w0 : IsRow .u8 w a0 len0 cap0 z0) :
    Calls Try.prog 8 #[.slice a0 len0 cap0] w fun e w' => e = .returned (.bool true) ∧ Below w.heap.size w w' := by
  have H := Lib.hid w0
  have hl := isRow_len w0
  clear w0
  by_cases hs : len0 ≤ 1048576
  · go_enter Try.func8, Try.ntmps8
    go_wp2_with fail
    refine (draw_spriteAt _ _ _ _ _ H.out).mono ?_; rintro e w1 ⟨A, n, c, S, fs, T, m, d, zs, ft, x, y, rfl, hg⟩
    obtain ⟨n1, hnc, m1, m4, hmd, hs1, ht1, b1⟩ := hg
    have S1 := Lib.hid hs1
    have T1 := Lib.hid ht1
    have B1 := Lib.hid b1
    have HL := Lib.hid hs1.1
    have hn9 : n ≤ 1000000000 := by omega
    have hm9 : m ≤ 1000000000 := by omega
    clear hs1 ht1 b1
    go_wp2_with fail
    refine (im_at A n c S fs T m d zs ft x y _ S1.out T1.out hn9 hm9).mono ?_; rintro e w2 ⟨rfl, bl⟩
    obtain ⟨R, hR⟩ : ∃ R, atT S m zs x y = R := ⟨_, rfl⟩
    have HR := Lib.hid hR
    rw [hR]
    clear hR
    obtain ⟨V, hV⟩ : ∃ V, atR S zs x y R = V := ⟨_, rfl⟩
    have HV := Lib.hid hV
    rw [hV]
    clear hV
    obtain ⟨va, vb⟩ := V
    rw [show pairV (va, vb) = .tuple #[.int .i64 va, .int .i64 vb] from rfl]
    have S2 := Lib.hid (S1.out.below bl)
    have T2 := Lib.hid (T1.out.below bl)
    have B2 := Lib.hid (below_then B1.out bl)
    clear S1 T1 B1 bl
    go_wp2_with fail
    refine (spec_at A n c S fs T m d zs ft x y _ S2.out T2.out hn9 hm9).mono ?_; rintro e w3 ⟨rfl, bl⟩
    rw [HR.out, HV.out, show pairV (va, vb) = .tuple #[.int .i64 va, .int .i64 vb] from rfl]
    have S3 := Lib.hid (S2.out.below bl)
    have T3 := Lib.hid (T2.out.below bl)
    have B3 := Lib.hid (below_then B2.out bl)
    clear S2 T2 B2 bl
    cases R with
    | none =>
      obtain ⟨rfl, rfl⟩ : va = -1 ∧ vb = 0 := by
        have := HV.out
        unfold atR at this
        injection this with h1 h2
        exact ⟨h1.symm, h2.symm⟩
      go_wp2_with fail
      refine (alive_any _).mono ?_; rintro e w' ⟨rfl, rfl⟩
      go_wp2_with fail
      go_ret
      exact ⟨rfl, B3.out⟩
    | some k =>
      obtain ⟨rfl, hvb⟩ : va = (k : Int) ∧ vb = valF (S.getD k .zero) zs x y := by
        have := HV.out
        unfold atR at this
        injection this with h1 h2
        exact ⟨h1.symm, h2.symm⟩
      have HVB := Lib.hid hvb
      have hok : (sprB S m zs && betB x 0 31 && betB y 0 15) = true ∧ atF S zs x y = some k := by
        have := HR.out
        unfold atT at this
        split at this
        · rename_i h; exact ⟨h, this⟩
        · cases this
      have HK := Lib.hid hok.2
      have HOK := Lib.hid hok.1
      have hk0 : ¬ (k : Int) < 0 := by omega
      clear hok hvb HV HR
      by_cases h12 : n = 12
      · have h12' : (n : Int) = 12 := by omega
        go_wp2_with fail
        refine (alive_any _).mono ?_; rintro e w' ⟨rfl, rfl⟩
        go_wp2_with fail
        go_ret
        exact ⟨rfl, B3.out⟩
      · have h12' : ¬ (n : Int) = 12 := by omega
        have h12b : ((n : Int) == 12) = false := by simp; omega
        obtain ⟨sn, hsn⟩ : ∃ sn : Spr, sn = ⟨x, y, 0, false, false, false⟩ := ⟨_, rfl⟩
        have HSN := Lib.hid hsn
        have hmv : atT (S ++ [sn]) m zs x y = some k ∧ valF ((S ++ [sn]).getD k .zero) zs x y = vb := by
          have h0 := HOK.out
          simp only [Bool.and_eq_true] at h0
          have h1 := at_more (s := sn) HK.out
          refine ⟨?_, by rw [h1.2, HVB.out]⟩
          have hs : sprB (S ++ [sn]) m zs = true := by
            obtain ⟨a1, a2, a3, a4⟩ := sprB_iff.1 h0.1.1
            refine sprB_iff.2 ⟨a1, fun i hi' => ?_, by rw [List.length_append, HL.out]; simp; rw [HL.out] at a3; omega, a4⟩
            by_cases hi : i < S.length
            · rw [List.getD_eq_getElem?_getD, List.getElem?_append_left hi, ← List.getD_eq_getElem?_getD]
              exact a2 i hi
            · have hi2 : i = S.length := by rw [List.length_append] at hi'; simp at hi'; omega
              rw [hi2, List.getD_eq_getElem?_getD, List.getElem?_append_right (Nat.le_refl _), Nat.sub_self]
              show sprOk m sn = true
              have hx1 := betB_iff.1 h0.1.2
              have hy1 := betB_iff.1 h0.2
              rw [HSN.out]
              unfold sprOk
              simp only [Bool.and_eq_true, betB_iff]
              omega
          unfold atT
          rw [hs, h0.1.2, h0.2]
          exact h1.1
        have HM := Lib.hid hmv
        clear hmv HOK HK
        subst hsn
        go_wp2_with (first
      | (refine wpList_append_sprsG (by rfl) _ _ rfl w3.heap.size (.slice (some ⟨w3.heap.size, 0, none⟩) 0 0) 0 [] rfl (own_empty6 w3 _ _ (Nat.le_refl _)) A n c S fs rfl (S3.out.below (below1 w3 _)) (by omega) (by simp) ?_; intro v1 wy own1 gr1 _; have O1 := Lib.hid own1; have BY : Hid (Below w3.heap.size w3 wy) := Lib.hid (below_grown2 (below1 w3 _) gr1 (fun q hq => by have := (own_block (own_empty6 w3 29 w3.heap.size (Nat.le_refl _)) q hq).1; exact this) (Nat.le_refl _)); have hyl := BY.out.size; clear own1 gr1)
      | (refine wpList_append_sprsG (by rfl) _ _ rfl w3.heap.size v1 (0 + n) ([] ++ S) rfl (own_keep_any O1.out (below1 wy _)) _ 1 1 [⟨x, y, 0, false, false, false⟩] [wy.heap.size] rfl (lone_spr wy ⟨x, y, 0, false, false, false⟩) (by omega) (by simp; omega) ?_; intro v2 wz own2 gr2 _; obtain ⟨A3, c3, f3, rfl, hc3, hs3, _, _⟩ := own_sprs own2; have SZ := Lib.hid hs3; have BZ : Hid (Below w3.heap.size w3 wz) := Lib.hid (below_grown2 (BY.out.alloc BY.out.size _) gr2 (fun q hq => (own_block O1.out q hq).1) (Nat.le_refl _)); clear own2 gr2 hs3))
        rw [Nat.zero_add, List.nil_append] at SZ
        refine (im_at A3 (n + 1) c3 (S ++ [⟨x, y, 0, false, false, false⟩]) f3 T m d zs ft x y _ SZ.out (T3.out.below BZ.out) (by omega) hm9).mono ?_; rintro e w9 ⟨rfl, bl⟩
        have hpv : pairV (atR (S ++ [⟨x, y, 0, false, false, false⟩]) zs x y (atT (S ++ [⟨x, y, 0, false, false, false⟩]) m zs x y)) = .tuple #[.int .i64 (k : Int), .int .i64 vb] := by
          rw [HM.out.1]
          show Value.tuple #[.int .i64 (k : Int), .int .i64 (valF ((S ++ [(⟨x, y, 0, false, false, false⟩ : Spr)]).getD k .zero) zs x y)] = _
          rw [HM.out.2]
        rw [hpv]
        have B9 := Lib.hid (below_then B3.out (below_then BZ.out bl))
        clear bl hpv
        go_wp2_with fail
        go_ret
        exact ⟨rfl, B9.out⟩
  · have hs' : 1048576 < len0 := by omega
    go_enter Try.func8, Try.ntmps8
    go_wp2_with fail
    go_ret
    exact ⟨rfl, Below.refl _ _⟩
end Go.Proofs.Ytpmeppknbpoibaa
