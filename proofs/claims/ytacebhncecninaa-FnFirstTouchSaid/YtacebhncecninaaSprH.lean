/- The program's tests of sprites. -/
import Derived.Test.YtacebhncecninaaGE
import Derived.Test.YtacebhncecninaaGD
import Derived.Test.YtacebhncecninaaGF
namespace Go.Proofs.Ytacebhncecninaa
open Go.ChangeShapes Go.WideShapes Go.ChangeAt Go.RowKit
set_option linter.unusedVariables false

theorem im_place (x : Int) (w : World) : Calls Try.prog 116 #[.int .i64 x] w fun e w' => e = .returned (.bool (betB x (-16) 64)) ∧ w = w' := by
  by_cases h0 : -16 ≤ x
  · by_cases h1 : x ≤ 64
    · have HB := Lib.hid (betB_iff.2 (show -16 ≤ x ∧ x ≤ 64 by omega))
      go_enter Try.func116, Try.ntmps116
      go_wp2_with fail
      go_ret
      exact ⟨ret_bool HB.out.symm, rfl⟩
    · have HB := Lib.hid (betB_no (show ¬ (-16 ≤ x ∧ x ≤ 64) by omega))
      have hd : decide (x ≤ 64) = false := by simp; omega
      clear h1
      go_enter Try.func116, Try.ntmps116
      go_wp2_with fail
      go_ret
      exact ⟨ret_bool HB.out.symm, rfl⟩
  · have HB := Lib.hid (betB_no (show ¬ (-16 ≤ x ∧ x ≤ 64) by omega))
    have hd : decide (-16 ≤ x) = false := by simp; omega
    clear h0
    go_enter Try.func116, Try.ntmps116
    go_wp2_with fail
    go_ret
    exact ⟨ret_bool HB.out.symm, rfl⟩
/-- A sprite in a variable. -/
theorem spr_new (w : World) (s : Spr) : Box (w.alloc (.cells #[.int .i64 s.x, .int .i64 s.y, .int .i64 s.n, .bool s.ac, .bool s.dn, .bool s.bh] 48)) w.heap.size 48 (scs s) := Box.new w _ _
set_option maxHeartbeats 2000000 in
theorem im_sprOk (s : Spr) (T : Option Addr) (m d : Nat) (w : World) (hm : m ≤ 1000000000) :
    Calls Try.prog 105 #[sprV s, .slice T m d] w fun e w' => e = .returned (.bool (sprOk m s)) ∧ Below w.heap.size w w' := by
  have X1 := Lib.hid (spr_new w s)
  have B1 := Lib.hid (below1 w (.cells #[.int .i64 s.x, .int .i64 s.y, .int .i64 s.n, .bool s.ac, .bool s.dn, .bool s.bh] 48))
  have HE : Hid (sprOk m s = (betB s.x (-16) 64 && betB s.y (-16) 64 && betB s.n 0 ((m : Int) - 1))) := Lib.hid rfl
  generalize sprOk m s = R at HE ⊢
  have c0 : (w.alloc (.cells #[.int .i64 s.x, .int .i64 s.y, .int .i64 s.n, .bool s.ac, .bool s.dn, .bool s.bh] 48)).cell? ⟨w.heap.size, 0, none⟩ = some (.int .i64 s.x) := X1.out.cell 0
  have c1 : (w.alloc (.cells #[.int .i64 s.x, .int .i64 s.y, .int .i64 s.n, .bool s.ac, .bool s.dn, .bool s.bh] 48)).cell? ⟨w.heap.size, 1, none⟩ = some (.int .i64 s.y) := X1.out.cell 1
  have c2 : (w.alloc (.cells #[.int .i64 s.x, .int .i64 s.y, .int .i64 s.n, .bool s.ac, .bool s.dn, .bool s.bh] 48)).cell? ⟨w.heap.size, 2, none⟩ = some (.int .i64 s.n) := X1.out.cell 2
  have K : ∀ b b' b'' : Bool, b = betB s.x (-16) 64 → b' = betB s.y (-16) 64 → b'' = betB s.n 0 ((m : Int) - 1) → R = (b && b' && b'') := by
    rintro b b' b'' rfl rfl rfl; exact HE.out
  have HK := Lib.hid K
  clear K HE
  go_enter Try.func105, Try.ntmps105
  go_wp2_with fail
  generalize w.alloc (.cells #[.int .i64 s.x, .int .i64 s.y, .int .i64 s.n, .bool s.ac, .bool s.dn, .bool s.bh] 48) = w1 at X1 B1 c0 c1 c2 ⊢
  generalize w.heap.size = bb at X1 c0 c1 c2
  refine (im_place s.x _).mono ?_; rintro e w2 ⟨rfl, rfl⟩
  obtain ⟨bx, hbx⟩ : ∃ b, b = betB s.x (-16) 64 := ⟨_, rfl⟩
  have HX := Lib.hid hbx
  rw [← hbx]
  clear hbx
  cases bx
  · go_wp2_with fail
    go_ret
    exact ⟨ret_bool (by rw [HK.out false _ _ HX.out rfl rfl]; rfl), B1.out⟩
  go_wp2_with fail
  refine (im_place s.y _).mono ?_; rintro e w2 ⟨rfl, rfl⟩
  obtain ⟨by', hby⟩ : ∃ b, b = betB s.y (-16) 64 := ⟨_, rfl⟩
  have HY := Lib.hid hby
  rw [← hby]
  clear hby
  cases by'
  · go_wp2_with fail
    go_ret
    exact ⟨ret_bool (by rw [HK.out true false _ HX.out HY.out rfl]; rfl), B1.out⟩
  by_cases h0 : 0 ≤ s.n
  · by_cases h1 : s.n < m
    · have HN := Lib.hid (betB_iff.2 (show 0 ≤ s.n ∧ s.n ≤ (m : Int) - 1 by omega))
      go_wp2_with fail
      go_ret
      exact ⟨ret_bool (by rw [HK.out true true true HX.out HY.out HN.out.symm]; rfl), B1.out⟩
    · have HN := Lib.hid (betB_no (show ¬ (0 ≤ s.n ∧ s.n ≤ (m : Int) - 1) by omega))
      have hd : decide (s.n < m) = false := by simp; omega
      clear h1
      go_wp2_with fail
      go_ret
      exact ⟨ret_bool (by rw [HK.out true true false HX.out HY.out HN.out.symm]; rfl), B1.out⟩
  · have HN := Lib.hid (betB_no (show ¬ (0 ≤ s.n ∧ s.n ≤ (m : Int) - 1) by omega))
    have hd : decide (0 ≤ s.n) = false := by simp; omega
    clear h0
    go_wp2_with fail
    go_ret
    exact ⟨ret_bool (by rw [HK.out true true false HX.out HY.out HN.out.symm]; rfl), B1.out⟩
set_option maxHeartbeats 2000000 in
theorem im_covers (s : Spr) (y : Int) (w : World) (hy : -1000000000 ≤ s.y ∧ s.y ≤ 1000000000) :
    Calls Try.prog 118 #[sprV s, .int .i64 y] w fun e w' => e = .returned (.bool (betB (y - s.y) 0 7)) ∧ Below w.heap.size w w' := by
  have X1 := Lib.hid (spr_new w s)
  have B1 := Lib.hid (below1 w (.cells #[.int .i64 s.x, .int .i64 s.y, .int .i64 s.n, .bool s.ac, .bool s.dn, .bool s.bh] 48))
  have c1 : (w.alloc (.cells #[.int .i64 s.x, .int .i64 s.y, .int .i64 s.n, .bool s.ac, .bool s.dn, .bool s.bh] 48)).cell? ⟨w.heap.size, 1, none⟩ = some (.int .i64 s.y) := X1.out.cell 1
  have hw : IntKind.i64.wrap (s.y + 8) = s.y + 8 := by rw [IntKind.wrap_i64]; omega
  go_enter Try.func118, Try.ntmps118
  by_cases h0 : s.y ≤ y
  · by_cases h1 : y < s.y + 8
    · have HN := Lib.hid (betB_iff.2 (show 0 ≤ y - s.y ∧ y - s.y ≤ 7 by omega))
      go_wp2_with fail
      go_ret
      exact ⟨ret_bool HN.out.symm, B1.out⟩
    · have HN := Lib.hid (betB_no (show ¬ (0 ≤ y - s.y ∧ y - s.y ≤ 7) by omega))
      have hd : decide (y < s.y + 8) = false := by simp; omega
      clear h1
      go_wp2_with fail
      go_ret
      exact ⟨ret_bool HN.out.symm, B1.out⟩
  · have HN := Lib.hid (betB_no (show ¬ (0 ≤ y - s.y ∧ y - s.y ≤ 7) by omega))
    have hd : decide (s.y ≤ y) = false := by simp; omega
    clear h0
    go_wp2_with fail
    go_ret
    exact ⟨ret_bool HN.out.symm, B1.out⟩
theorem spr_info : (Try.prog.info? 48).map (·.size) = some 6 := by kernel_rfl
theorem spr_range {w : World} {b o n : Nat} {S : List Spr} {fp : List Nat} (h : Sprs w (some ⟨b, o, none⟩) n S fp) {k : Nat} (hk : k < n) : w.rangeAt b (o + k * 6) (scs (S.getD k .zero)) := by
  intro j v hv
  obtain ⟨b', o', he, _, _, hc⟩ := h.at_ (by omega)
  injection he with he
  injection he with e1 e2 _
  subst e1 e2
  rw [show o + k * 6 + j = o + (6 * k + j) by omega]
  exact hc k hk j v hv
section
variable {ops : Array Oper} {rest : List Oper} {o : Oper} {a : Act} {w : World} {Q : Exit → Act → World → Prop}
theorem sp_load {t : TypeId} (hw : Region.wanted o (yielded ops a.tmps) = true) (x : Operand) (ho : o.op = .load 48 x) (b : Nat) (hx : a.eval x = .pointer (some ⟨b, 0, none⟩)) (s : Spr) (hb : Box w b t (scs s))
    (h : wpList Try.prog ops Q rest (a.put o.dst (sprV s)) w) : wpList Try.prog ops Q (o :: rest) a w :=
  wpList_step fun K hK => by
    rw [if_pos hw]
    exact wp_load_row _ x ho b hx t (scs s).toArray (0, 0) _ hb Try.underlying48 rfl spr_info (hK _ _ h)
theorem sp_loadm (hw : Region.wanted o (yielded ops a.tmps) = true) (x : Operand) (ho : o.op = .load 48 x) (b k : Nat) (hx : a.eval x = .pointer (some ⟨b, k, none⟩)) (s : Spr) (hb : w.rangeAt b k (scs s))
    (h : wpList Try.prog ops Q rest (a.put o.dst (sprV s)) w) : wpList Try.prog ops Q (o :: rest) a w :=
  wpList_step fun K hK => by
    rw [if_pos hw]
    exact wp_load_mid _ x ho b k hx (scs s) _ hb Try.underlying48 rfl spr_info (hK _ _ h)
theorem sp_store {t : TypeId} (hw : Region.wanted o (yielded ops a.tmps) = true) (x y : Operand) (ho : o.op = .store 48 x y) (b : Nat) (hx : a.eval x = .pointer (some ⟨b, 0, none⟩)) (s : Spr) (hy : a.eval y = sprV s) (cs : List Value) (hb : Box w b t cs) (hc : cs.length = 6)
    (h : wpList Try.prog ops Q rest (a.put o.dst undef) (w.setRow b (scs s).toArray)) : wpList Try.prog ops Q (o :: rest) a w :=
  wpList_step fun K hK => by
    rw [if_pos hw]
    exact wp_store_row _ x y ho b (scs s).toArray hx hy t cs.toArray hb spr_info (by show cs.toArray.size = 6; simpa using hc) (by simp [scs, Value.oneCell']) (hK _ _ h)
end
theorem below_spr (w : World) (s : Spr) : Below w.heap.size w ((w.alloc (.cells #[.int .i64 0, .int .i64 0, .int .i64 0, .bool false, .bool false, .bool false] 48)).setRow w.heap.size (scs s).toArray) := below_row (below1 w _) (Nat.le_refl _) _
theorem own_none (w : World) (base : Nat) (e : TypeId) (s : Nat) : w.ownsRow base e s (.slice none 0 0) 0 [] := ⟨by simp, .inl ⟨rfl, rfl⟩⟩
set_option maxHeartbeats 2000000 in
theorem im_cover (A : Option Addr) (n c : Nat) (S : List Spr) (fp : List Nat) (y : Int) (w : World) (h : Sprs w A n S fp) (hn : n ≤ 1000000000) (hs : ∀ i, i < n → -1000000000 ≤ (S.getD i .zero).y ∧ (S.getD i .zero).y ≤ 1000000000) :
    Calls Try.prog 109 #[.slice A n c, .int .i64 y] w (Copied (nums (allF S y)) (allF S y).length w) := by
  have H := Lib.hid h
  have HY := Lib.hid hs
  have hl := Lib.hid h.1
  clear h hs
  go_enter Try.func109, Try.ntmps109
  go_wp2_with fail
  go_loopw [5, 10] (fun v i wr => ∃ k : Nat, k ≤ n ∧ i = .int .i64 k ∧ wr.ownsRow w.heap.size 3 1 v (onN S y k).length (iv (nums (onN S y k))) ∧ Below w.heap.size w wr) (fun _ i _ => n - (intOf i).toNat)
  case atStart => exact ⟨0, by omega, rfl, own_none _ _ _ _, Below.refl _ _⟩
  case round =>
    obtain ⟨k, hk, rfl, how, hbl⟩ := hrel
    have OW := Lib.hid how
    have BR := Lib.hid hbl
    clear how hbl
    obtain ⟨A2, c2, f2, rfl, hc2, _, hi2, hn2, _⟩ := own_ints OW.out
    have I2 := Lib.hid hi2
    have N2 := Lib.hid hn2
    have LN := Lib.hid (onN_le S y k)
    clear hi2 hn2
    obtain ⟨m, hm⟩ : ∃ m : Nat, (onN S y k).length = m := ⟨_, rfl⟩
    have HM := Lib.hid hm
    have mk : m ≤ k := by have := LN.out; omega
    rw [hm] at OW I2 hc2 ⊢
    clear hm
    by_cases hlt : k < n
    · obtain ⟨p, o, rfl, _, hpl, hc⟩ := H.out.at_ (by omega)
      clear hc
      have RG := Lib.hid (spr_range (H.out.below BR.out) hlt)
      have hyk := HY.out k hlt
      have HCV : Hid (covB S y k = betB (y - (S.getD k .zero).y) 0 7) := Lib.hid rfl
      generalize S.getD k .zero = s at RG hyk HCV
      have hk' : (k : Int) < n := by omega
      go_wp2_with (first | (refine sp_loadm (by rfl) _ rfl _ _ rfl s RG.out ?_) | (refine sp_store (by rfl) _ _ rfl _ rfl s rfl _ (Box.new _ _ _) (by rfl) ?_) | (refine sp_load (by rfl) _ rfl _ rfl s (Box.row (cs := scs .zero) (Box.new _ _ _)) ?_))
      refine (im_covers s y _ hyk).mono ?_; rintro e w2 ⟨rfl, b2⟩
      have B2 := Lib.hid (below_then (below_spr wr s) b2)
      have O2 := Lib.hid (own_keep_any OW.out B2.out)
      have B3 := Lib.hid (below_then BR.out B2.out)
      clear b2
      rw [← HCV.out]
      clear OW I2 BR B2 RG
      cases hcv : covB S y k
      · go_wp2_with fail
        go_roundw
        case rel => exact ⟨k + 1, by omega, by go_num, by rw [onN_no hcv, HM.out]; exact O2.out, B3.out⟩
        case measure => simp [intOf]; omega
      · go_wp2_with (at_builtin; refine wpList_append_ints rfl _ _ rfl w.heap.size (.slice A2 m c2) m (nums (onN S y k)) rfl (own_keep_any O2.out (below1 _ _)) _ 1 1 [(k : Int)] [w2.heap.size] rfl (lone_num w2 k) (by omega) (by have := B3.out.size; simp; omega) ?_; intro v' w3 own3 gr3 _; have O3 := Lib.hid own3; have B4 : Hid (Below w.heap.size w w3) := Lib.hid (below_grown2 (B3.out.alloc B3.out.size _) gr3 (fun q hq => (own_block O2.out q hq).1) (Nat.le_refl _)); clear own3 gr3)
        go_roundw
        case rel => exact ⟨k + 1, by omega, by go_num, by rw [onN_yes hcv]; simpa [nums, HM.out] using O3.out, B4.out⟩
        case measure => simp [intOf]; omega
    · obtain rfl : k = n := by omega
      have hE : Hid (allF S y = onN S y k) := Lib.hid (by unfold allF; rw [hl.out])
      go_wp2_with fail
      go_ret
      exact ⟨A2, c2, f2, by rw [hE.out, HM.out]; rfl, by rw [hE.out, HM.out]; exact hc2, by rw [hE.out, HM.out]; exact I2.out, N2.out, BR.out⟩
theorem ints_take {w : World} {A : Option Addr} {n : Nat} {xs : List Int} {fp : List Nat} (h : Ints w A n xs fp) (m : Nat) (h4 : m ≤ n) (h0 : m = 0 → n = 0) : Ints w A m (xs.take m) fp := by
  refine ⟨by rw [List.length_take, h.1]; omega, ?_⟩
  rcases h.2 with ⟨h1, h2⟩ | ⟨h1, b, o, hA, hf, hb, hc⟩
  · exact .inl ⟨by omega, h2⟩
  · refine .inr ⟨by have : m ≠ 0 := fun e => by have := h0 e; omega
                    omega, b, o, hA, hf, hb, fun i hi => ?_⟩
    rw [hc i (by omega), List.getD_eq_getElem?_getD, List.getD_eq_getElem?_getD, List.getElem?_take, if_pos hi]
theorem im_shown (A : Option Addr) (n c : Nat) (xs : List Int) (fp : List Nat) (w : World) (h : Ints w A n xs fp) (hc : n ≤ c) (hn : n ≤ 1000000000) :
    Calls Try.prog 108 #[.slice A n c] w fun e w' => (∃ c', e = .returned (.slice A (min n 4) c') ∧ min n 4 ≤ c') ∧ w = w' := by
  cases A with
  | none =>
    obtain rfl : n = 0 := by
      rcases h.2 with ⟨h, _⟩ | ⟨_, b, o, h, _⟩
      · exact h
      · cases h
    go_enter Try.func108, Try.ntmps108
    go_wp2_with fail
    go_ret
    exact ⟨⟨c, rfl, Nat.zero_le _⟩, rfl⟩
  | some a =>
    clear h
    by_cases h4 : n ≤ 4
    · have h4' : (n : Int) ≤ 4 := by omega
      have hm : Hid (min n 4 = n) := Lib.hid (by omega)
      go_enter Try.func108, Try.ntmps108
      go_wp2_with fail
      go_ret
      exact ⟨⟨c, by rw [hm.out]; rfl, by omega⟩, rfl⟩
    · have h4' : (4 : Int) < n := by omega
      have hm : Hid (min n 4 = 4) := Lib.hid (by omega)
      have hc4 : 4 ≤ c := by omega
      go_enter Try.func108, Try.ntmps108
      go_wp2_with fail
      go_ret
      exact ⟨⟨c, by rw [hm.out]; rfl, by omega⟩, rfl⟩
set_option maxHeartbeats 2000000 in
theorem im_sprValid (A : Option Addr) (n c : Nat) (S : List Spr) (fs : List Nat) (T : Option Addr) (m d : Nat) (zs : List Int) (ft : List Nat) (w : World) (hS : Sprs w A n S fs) (hT : Ints w T (64 * m) zs ft) (hn : n ≤ 1000000000) (hm : m ≤ 1000000000) :
    Calls Try.prog 77 #[.slice A n c, .slice T m d] w fun e w' => e = .returned (.bool (sprB S m zs)) ∧ Below w.heap.size w w' := by
  have HL := Lib.hid hS.1
  have HE : Hid (sprB S m zs = (tilB zs && S.all (sprOk m) && decide (n ≤ 12) && decide (m ≤ 16))) := Lib.hid (by unfold sprB; rw [hS.1])
  have HS := Lib.hid hS
  have HT := Lib.hid hT
  clear hS hT
  generalize sprB S m zs = R at HE ⊢
  by_cases h12 : n ≤ 12
  · have HD : Hid (decide (n ≤ 12) = true) := Lib.hid (by simpa using h12)
    go_enter Try.func77, Try.ntmps77
    go_wp2_with fail
    go_loopw [12] (fun i ws => ∃ q : Nat, q ≤ n ∧ i = .int .i64 q ∧ Below w.heap.size w ws ∧ ∀ j, j < q → sprOk m (S.getD j .zero) = true) (fun i _ => n - (intOf i).toNat)
    case atStart => exact ⟨0, by omega, rfl, Below.refl _ _, fun j hj => by omega⟩
    case round =>
      obtain ⟨q, hq, rfl, hb, hall⟩ := hrel
      have HK := Lib.hid hall
      have HC := Lib.hid hb
      clear hall hb
      by_cases hlt : q < n
      · obtain ⟨p, o, rfl, _, hpl, hc⟩ := HS.out.at_ (by omega)
        clear hc
        have RG := Lib.hid (spr_range (HS.out.below HC.out) hlt)
        have HQ : Hid (sprOk m (S.getD q .zero) = false → S.all (sprOk m) = false) := Lib.hid (spr_bad q (by rw [HL.out]; exact hlt))
        have HG : Hid (sprOk m (S.getD q .zero) = true → ∀ j, j < q + 1 → sprOk m (S.getD j .zero) = true) := Lib.hid fun h j hj => by
          by_cases e : j = q
          · subst e; exact h
          · exact HK.out j (by omega)
        generalize S.getD q .zero = s at RG HQ HG
        have hq' : (q : Int) < n := by omega
        go_wp2_with (first | (refine sp_loadm (by rfl) _ rfl _ _ rfl s RG.out ?_) | (refine sp_store (by rfl) _ _ rfl _ rfl s rfl _ (Box.new _ _ _) (by rfl) ?_) | (refine sp_load (by rfl) _ rfl _ rfl s (Box.row (cs := scs .zero) (Box.new _ _ _)) ?_))
        refine (im_sprOk s _ m d _ hm).mono ?_; rintro e w2 ⟨rfl, b2⟩
        have B2 := Lib.hid (below_then HC.out (below_then (below_spr wr s) b2))
        clear b2 RG
        cases hok : sprOk m s
        · have HF := Lib.hid (HQ.out hok)
          go_wp2_with fail
          go_ret
          exact ⟨ret_bool (by rw [HE.out, HF.out]; simp), B2.out⟩
        · have HV := Lib.hid (HG.out hok)
          clear hok
          go_wp2_with fail
          go_roundw
          case rel => exact ⟨q + 1, by omega, by go_num, B2.out, HV.out⟩
          case measure => simp [intOf]; omega
      · obtain rfl : q = n := by omega
        have HA := Lib.hid (spr_good (S := S) (m := m) fun j hj => HK.out j (by rw [HL.out] at hj; exact hj))
        go_wp2_with fail
        refine (im_tiles T m d zs ft _ (HT.out.below HC.out) hm).mono ?_; rintro e w2 ⟨rfl, b2⟩
        have B2 := Lib.hid (below_then HC.out b2)
        clear b2
        go_wp2_with fail
        go_ret
        exact ⟨ret_bool (by rw [HE.out, HA.out, HD.out]; simp [Bool.and_comm]), B2.out⟩
  · have HD : Hid (decide (n ≤ 12) = false) := Lib.hid (by simpa using h12)
    have hgt : (12 : Int) < n := by omega
    go_enter Try.func77, Try.ntmps77
    go_wp2_with fail
    go_ret
    exact ⟨ret_bool (by rw [HE.out, HD.out]; simp), Below.refl _ _⟩
end Go.Proofs.Ytacebhncecninaa
