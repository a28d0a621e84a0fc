/- The law on sprites behind a full background, walked. -/
import Derived.Test.YtacebhncecninaaScnU
import Derived.Test.YtacebhncecninaaScnN
import Derived.Test.YtacebhncecninaaScnI
import Derived.Test.YtacebhncecninaaScnT
import Derived.Test.YtacebhncecninaaScnJ
import Derived.Test.YtacebhncecninaaSprW
namespace Go.Proofs.Ytacebhncecninaa
open Go.ChangeShapes Go.WideShapes Go.ChangeAt Go.RowKit
set_option linter.unusedVariables false

section
variable {ops : Array Oper} {rest : List Oper} {o : Oper} {a : Act} {w : World} {Q : Exit → Act → World → Prop}
/-- New slices of one tile, of one sprite. -/
theorem st_lits (hw : Region.wanted o (yielded ops a.tmps) = true) (x : Operand) (ho : o.op = .buildSlice 24 1 #[(0, x)]) (px : List Int) (hp : px.length = 64) (hx : a.eval x = tilV px)
    (h : wpList Try.prog ops Q rest (a.put o.dst (.slice (some ⟨w.heap.size, 0, none⟩) 1 1)) (w.alloc (.cells (iv px).toArray 57))) : wpList Try.prog ops Q (o :: rest) a w :=
  wpList_step fun K hK => by
    rw [if_pos hw]
    unfold Oper.wp execOp
    simp only [ho, List.map_toArray, List.map_cons, List.map_nil, hx, Sem.run_bind, run_buildT px hp, Result.andThen_ok, Sem.run_pure]
    exact hK _ _ h
theorem sp_lits (hw : Region.wanted o (yielded ops a.tmps) = true) (x : Operand) (ho : o.op = .buildSlice 39 1 #[(0, x)]) (s : Spr) (hx : a.eval x = sprV s)
    (h : wpList Try.prog ops Q rest (a.put o.dst (.slice (some ⟨w.heap.size, 0, none⟩) 1 1)) (w.alloc (.cells #[.int .i64 s.x, .int .i64 s.y, .int .i64 s.n, .bool s.ac, .bool s.dn, .bool s.bh] 48))) : wpList Try.prog ops Q (o :: rest) a w :=
  wpList_step fun K hK => by
    rw [if_pos hw]
    unfold Oper.wp execOp
    simp only [ho, List.map_toArray, List.map_cons, List.map_nil, hx, Sem.run_bind, run_buildS, Result.andThen_ok, Sem.run_pure]
    exact hK _ _ h
end
theorem own_cellFar {w : World} {base : Nat} {e : TypeId} {s : Nat} {v : Value} {n : Nat} {xs : List Value} (h : w.ownsRow base e s v n xs) {b i : Nat} (hb : b < base) (u : Value) : (w.setCell ⟨b, i, none⟩ u).ownsRow base e s v n xs := by
  rcases h with ⟨hl, h | ⟨g, cap, cur, rfl, hg, hh, hr⟩⟩
  · exact ⟨hl, .inl h⟩
  · exact ⟨hl, .inr ⟨g, cap, cur, rfl, hg, (Below.heap_setCell w ⟨b, i, none⟩ u g (by show g ≠ b; omega)).trans hh, hr⟩⟩
theorem only_then {S : List Nat} {a b c : World} (h : Only S a b) (k : Below a.heap.size b c) : Only S a c :=
  ⟨k.os.trans h.os, k.tape.trans h.tape, k.output.trans h.output, Nat.le_trans h.size k.size, fun j hj hn => (k.block j hj).trans (h.block j hj hn)⟩
set_option maxRecDepth 100000 in
set_option maxHeartbeats 8000000 in
theorem walk_FnSceneBehind (a0 : Option Addr) (len0 cap0 : Nat) (z0 : List Int) (w : World) (w0 : IsRow .u8 w a0 len0 cap0 z0) :
    Calls Try.prog 9 #[.slice a0 len0 cap0] w fun e w' => e = .returned (.bool true) ∧ Below w.heap.size w w' := by
  have H := Lib.hid w0
  have hl := isRow_len w0
  clear w0
  by_cases hs : len0 ≤ 1048576
  · go_enter Try.func9, Try.ntmps9
    go_wp2_with fail
    refine (draw_sceneLine _ _ _ _ _ H.out).mono ?_; rintro e w1 ⟨F, S, A, c, T, d, O, e0, fa, ft, fo, y, rfl, hyy, hg⟩
    have hx1 := hg.x1
    have ht1 := hg.t1
    have hs1 := hg.s1
    have hxc := hg.xc
    have htd := hg.td
    have hse := hg.se
    have HS : Hid (SSmall F S) := Lib.hid ⟨⟨by omega, by omega⟩, by omega⟩
    obtain ⟨w2, hw2⟩ : ∃ W, W = w1.alloc (.cells #[.int .i64 F.w, .slice A F.xs.length c, .slice T F.nt d, .int .i64 F.sx, .int .i64 F.sy, .slice O S.length e0] 41) := ⟨_, rfl⟩
    have hbt : w.heap.size ≤ w1.heap.size := hg.below.size
    have X2 : Hid (Box w2 w1.heap.size 41 (ccs F.w A F.xs.length c T F.nt d F.sx F.sy O S.length e0)) := Lib.hid (by rw [hw2]; exact Box.new _ _ _)
    have H2 : Hid (SHas w2 A T O F S fa ft fo) := Lib.hid (by rw [hw2]; exact hg.has.below (below1 _ _))
    have B2 : Hid (Below w.heap.size w w2) := Lib.hid (by rw [hw2]; exact hg.below.alloc hg.below.size _)
    clear hg
    go_upto_region 4 with (fail)
    rw [← hw2]
    generalize w1.heap.size = bs at X2 hbt
    clear hw2
    go_wp2_with (first | (refine sc_load (by rfl) _ rfl bs rfl X2.out ?_))
    refine (spec_scnValid F A c T d S O e0 fa ft fo _ H2.out HS.out).mono ?_; rintro e w3 ⟨rfl, bl⟩
    obtain ⟨V, hV⟩ : ∃ V, scnB F S = V := ⟨_, rfl⟩
    have HV := Lib.hid hV
    rw [hV]
    clear hV
    have X3 := Lib.hid (X2.out.below bl)
    have H3 := Lib.hid (H2.out.below bl)
    have B3 := Lib.hid (below_then B2.out bl)
    clear X2 H2 B2 bl
    by_cases hok : V = true ∧ 0 ≤ y ∧ y < 16
    · obtain ⟨rfl, y0, y1⟩ := hok
      have y0' : ¬ y < 0 := by omega
      have y1' : ¬ 16 ≤ y := by omega
      have hyb : betB y 0 15 = true := betB_iff.2 ⟨y0, by omega⟩
      go_upto_region 7 with (first | (refine st_build (by rfl) rfl ?_) | (refine st_alloc (by rfl) rfl ?_) | (refine st_store (by rfl) _ _ rfl w3.heap.size rfl z64 rfl (by simp [z64]) (iv z64) (Box.new w3 _ _) (by simp [z64_len]) ?_))
      obtain ⟨w4, hw4⟩ : ∃ w4, w4 = (w3.alloc (.cells (iv z64).toArray 57)).setRow w3.heap.size (iv z64).toArray := ⟨_, rfl⟩
      obtain ⟨bt, hbt4⟩ : ∃ b, b = w3.heap.size := ⟨_, rfl⟩
      have T4 : Hid (Box w4 bt 57 (iv (fullK 0))) := Lib.hid (by rw [hw4, hbt4, fullK_zero]; exact Box.row (Box.new w3 _ _))
      have L4 : Hid (Below w3.heap.size w3 w4) := Lib.hid (by rw [hw4]; exact below_row (below1 w3 _) (Nat.le_refl _) _)
      rw [← hw4, ← hbt4]
      have hbt5 : w3.heap.size ≤ bt := by omega
      clear hw4 hbt4
      go_wp2_with fail
      go_loopw [6] (fun i wr => ∃ k : Nat, k ≤ 64 ∧ i = .int .i64 k ∧ Box wr bt 57 (iv (fullK k)) ∧ Below w3.heap.size w3 wr) (fun i _ => 64 - (intOf i).toNat)
      case atStart => exact ⟨0, by omega, rfl, T4.out, L4.out⟩
      case round =>
        obtain ⟨k, hk, rfl, htb, hbl⟩ := hrel
        have TB := Lib.hid htb
        have BL := Lib.hid hbl
        clear htb hbl T4 L4
        by_cases h64 : k < 64
        · have k64 : (k : Int) < 64 := by omega
          have ck : wr.cell? ⟨bt, k, none⟩ = some (.int .i64 ((fullK k).getD k 0)) := (TB.out.cell k).trans (iv_at _ k (by rw [fullK_len]; exact h64))
          have fz := TB.out.frozen
          have hr0 : (k : Int).tmod 3 = (k : Int) % 3 := Int.tmod_eq_emod_of_nonneg (by omega)
          have hr1 : IntKind.i64.wrap ((k : Int) % 3) = (k : Int) % 3 := by rw [IntKind.wrap_i64]; omega
          have hr2 : IntKind.i64.wrap (1 + (k : Int) % 3) = 1 + (k : Int) % 3 := by rw [IntKind.wrap_i64]; omega
          have T5 : Hid (Box (wr.setCell ⟨bt, k, none⟩ (.int .i64 (1 + (k : Int) % 3))) bt 57 (iv (fullK (k + 1)))) := Lib.hid (by rw [← fullK_step k h64, ← iv_set]; exact TB.out.set k _)
          have L5 := Lib.hid (BL.out.setCell (p := ⟨bt, k, none⟩) (by exact hbt5) (.int .i64 (1 + (k : Int) % 3)))
          go_wp2_with fail
          go_roundw
          case rel => exact ⟨k + 1, by omega, by go_num, T5.out, L5.out⟩
          case measure => simp [intOf]; omega
        · obtain rfl : k = 64 := by omega
          have X4 := Lib.hid (X3.out.below BL.out)
          have H4 := Lib.hid (H3.out.below BL.out)
          have B4 := Lib.hid (below_then B3.out BL.out)
          clear BL
          go_upto_region 12 with (first | (refine st_load (by rfl) _ rfl bt rfl (fullK 64) (fullK_len 64) (TB.out.alloc _) ?_) | (refine st_lits (by rfl) _ rfl (fullK 64) (fullK_len 64) rfl ?_))
          obtain ⟨w5, hw5⟩ : ∃ w5, w5 = ((wr.alloc (.cells #[.int .i64 0] 3)).alloc (.cells (iv (fullK 64)).toArray 57)).alloc (.cells #[.int .i64 1, .slice (some ⟨wr.heap.size, 0, none⟩) 1 1, .slice (some ⟨wr.heap.size + 1, 0, none⟩) 1 1, .int .i64 0, .int .i64 0, .slice none 0 0] 41) := ⟨_, rfl⟩
          obtain ⟨bm, hbm⟩ : ∃ b, b = wr.heap.size := ⟨_, rfl⟩
          obtain ⟨b2, hb2⟩ : ∃ b, b = bm + 1 := ⟨_, rfl⟩
          obtain ⟨bx, hbx⟩ : ∃ b, b = b2 + 1 := ⟨_, rfl⟩
          have Y5 : Hid (Box w5 bx 41 (ccs 1 (some ⟨bm, 0, none⟩) 1 1 (some ⟨b2, 0, none⟩) 1 1 0 0 none 0 0)) := Lib.hid (by rw [hw5, ← hbm, hbx, hb2, hbm]; exact Box.new_at _ _ _ _ (by simp))
          have I5 : Hid (Ints w5 (some ⟨bm, 0, none⟩) 1 [0] [bm]) := Lib.hid (by rw [hw5, hbm]; exact ((lone_int wr 0).below (below1 _ _)).below (below1 _ _))
          have J5 : Hid (Ints w5 (some ⟨b2, 0, none⟩) (64 * 1) (fullK 64) [b2]) := Lib.hid (by rw [hw5, hb2, hbm]; have h := lone_tile (wr.alloc (.cells #[.int .i64 0] 3)) (fullK 64) (fullK_len 64); simp only [World.size_alloc] at h; exact h.below (below1 _ _))
          have K5 : Hid (Below wr.heap.size wr w5) := Lib.hid (by rw [hw5]; exact below3 wr _ _ _)
          have hs5 : bx < w5.heap.size := Y5.out.lt
          rw [← hw5, ← hbm, ← hb2, ← hbx]
          have hm1 : wr.heap.size ≤ bm := by omega
          have hm2 : bm < b2 := by omega
          have hm3 : b2 < bx := by omega
          clear hw5 TB hbm hb2 hbx
          have X5 := Lib.hid (X4.out.below K5.out)
          have H5 := Lib.hid (H4.out.below K5.out)
          have B5 := Lib.hid (below_then B4.out K5.out)
          have hXs : bs < wr.heap.size := X4.out.lt
          have hwx : w.heap.size ≤ bx := by have := B4.out.size; omega
          have HNO : Hid (∀ b ∈ fo, b < bx) := Lib.hid fun b hb => by have := H4.out.2.lt b hb; omega
          have HNB : Hid (bs < bx ∧ bm < bx ∧ b2 < bx) := Lib.hid ⟨by omega, by omega, by omega⟩
          clear K5 X4 H4 B4 X3 H3 B3
          go_wp2_with fail
          go_loopw [8, 9] (fun i t9 wq => ∃ (k : Nat) (A' : Option Addr) (c' : Nat), k ≤ S.length ∧ i = .int .i64 k ∧ Only [bx] w5 wq ∧ Box wq bx 41 (ccs 1 (some ⟨bm, 0, none⟩) 1 1 (some ⟨b2, 0, none⟩) 1 1 0 0 A' k c') ∧ wq.ownsRow w5.heap.size 48 6 (.slice A' k c') k (svs (behS (S.take k)))) (fun i _ _ => S.length - (intOf i).toNat)
          case atStart => exact ⟨0, none, 0, by omega, rfl, Only.refl _ _, Y5.out, own_none _ _ _ _⟩
          case round =>
            obtain ⟨k, A', c', hk, rfl, ho, hy, hown⟩ := hrel
            have XQ := Lib.hid (X5.out.only ho (by simp; omega))
            have YQ := Lib.hid hy
            have OQ := Lib.hid ho
            have WQ := Lib.hid hown
            clear ho hy hown
            have k5 := XQ.out.cell 5
            by_cases hkn : k < S.length
            · have hkn' : (k : Int) < S.length := by omega
              have SQ := Lib.hid (H5.out.2.keep (.of_only OQ.out fun b hb hx => by have := HNO.out b hb; simp at hx; omega))
              obtain ⟨p, o, rfl, _, hpl, _⟩ := SQ.out.at_ (by omega)
              have RG := Lib.hid (spr_range SQ.out hkn)
              obtain ⟨s, hse⟩ : ∃ s, S.getD k .zero = s := ⟨_, rfl⟩
              have HST : Hid (behS (S.take (k + 1)) = behS (S.take k) ++ [behO s]) := Lib.hid (by rw [behS_step S k hkn, hse])
              rw [hse] at RG
              clear hse
              go_upto_region 16 with (first
                | (refine sp_loadm (by rfl) _ rfl p (o + k * 6) rfl s RG.out ?_)
                | (refine sp_store (by rfl) _ _ rfl wr.heap.size rfl s rfl _ (Box.new wr _ _) rfl ?_))
              obtain ⟨bq, hbq⟩ : ∃ b, b = wr.heap.size := ⟨_, rfl⟩
              obtain ⟨w7, hw7⟩ : ∃ w7, w7 = (wr.alloc (.cells #[.int .i64 0, .int .i64 0, .int .i64 0, .bool false, .bool false, .bool false] 48)).setRow wr.heap.size (scs s).toArray := ⟨_, rfl⟩
              have Z7 : Hid (Box w7 bq 48 (scs s)) := Lib.hid (by rw [hw7, hbq]; exact Box.row (spr_new wr .zero))
              have L7 : Hid (Below wr.heap.size wr w7) := Lib.hid (by rw [hw7]; exact below_spr wr s)
              rw [← hw7, ← hbq]
              have hq1 : wr.heap.size ≤ bq := by omega
              clear hw7 RG k5 hbq
              have z5 : w7.cell? ⟨bq, 5, none⟩ = some (.bool s.bh) := Z7.out.cell 5
              have z2 : w7.cell? ⟨bq, 2, none⟩ = some (.int .i64 s.n) := Z7.out.cell 2
              have fz := Z7.out.frozen
              go_upto_region 18 with (fail)
              obtain ⟨w8, hw8⟩ : ∃ w8, w8 = (w7.setCell ⟨bq, 5, none⟩ (.bool true)).setCell ⟨bq, 2, none⟩ (.int .i64 0) := ⟨_, rfl⟩
              have Z8 : Hid (Box w8 bq 48 (scs (behO s))) := Lib.hid (by rw [hw8]; exact (Z7.out.set 5 _).set 2 _)
              have L8 : Hid (Below wr.heap.size wr w8) := Lib.hid (by rw [hw8]; exact (L7.out.setCell (by exact hq1) _).setCell (by exact hq1) _)
              rw [← hw8]
              clear hw8 z5 z2 fz Z7 L7
              have Y8 := Lib.hid (YQ.out.below L8.out)
              have W8 := Lib.hid (own_keep_any WQ.out L8.out)
              have O8 := Lib.hid (OQ.out.trans (.of_below L8.out))
              have sz8 : w5.heap.size ≤ w8.heap.size := O8.out.size
              have y5 := Y8.out.cell 5
              obtain ⟨w9, hw9⟩ : ∃ w9, w9 = w8.alloc (.cells #[.int .i64 (behO s).x, .int .i64 (behO s).y, .int .i64 (behO s).n, .bool (behO s).ac, .bool (behO s).dn, .bool (behO s).bh] 48) := ⟨_, rfl⟩
              have L9 : Below w8.heap.size w8 w9 := by rw [hw9]; exact below1 _ _
              have S9 : Hid (Sprs w9 (some ⟨w8.heap.size, 0, none⟩) 1 [behO s] [w8.heap.size]) := Lib.hid (by rw [hw9]; exact lone_spr w8 (behO s))
              have W9 := Lib.hid (own_keep_any W8.out L9)
              have Y9 := Lib.hid (Y8.out.below L9)
              have O9 := Lib.hid (O8.out.trans (.of_below L9))
              have sz9 : w5.heap.size ≤ w9.heap.size := O9.out.size
              have y9 : w9.cell? ⟨bx, 5, none⟩ = some (.slice A' k c') := Y9.out.cell 5
              clear Y8 W8 O8 L9
              go_upto_region 14 with (first
                | (refine sp_load (by rfl) _ rfl bq rfl (behO s) Z8.out ?_)
                | (refine sp_lits (by rfl) _ rfl (behO s) rfl ?_; rw [← hw9]; clear y5)
                | (refine wpList_append_sprs rfl _ _ rfl w5.heap.size (.slice A' k c') k (behS (S.take k)) rfl W9.out (some ⟨w8.heap.size, 0, none⟩) 1 1 [behO s] [w8.heap.size] rfl S9.out (by omega) sz9 ?_; intro v' wz own' gr' _; obtain ⟨A3, c3, f3, rfl, hc3, hs3, _, _⟩ := own_sprs own'; have bz := below_grown2 (Below.refl w5.heap.size w9) gr' (fun q hq => (own_block W9.out q hq).1) sz9; have YZ := Lib.hid (Y9.out.keep bz (by omega)); have WZ := Lib.hid own'; have OZ : Hid (Only [bx] w5 wz) := Lib.hid (only_then O9.out bz); have yz : wz.cell? ⟨bx, 5, none⟩ = some (.slice A' k c') := YZ.out.cell 5; have fz := YZ.out.frozen; clear own' gr' bz y9 hs3))
              have YE := Lib.hid (YZ.out.set 5 (.slice A3 (k + 1) c3))
              have WE := Lib.hid (own_cellFar (i := 5) WZ.out hs5 (.slice A3 (k + 1) c3))
              have OE := Lib.hid (OZ.out.setCell (q := bx) (j := 5) (.inl (by simp)) (.slice A3 (k + 1) c3))
              go_wp2_with fail
              go_roundw
              case rel => exact ⟨k + 1, A3, c3, by omega, by go_num, OE.out, YE.out, by rw [HST.out]; exact WE.out⟩
              case measure => simp [intOf]; omega
            · obtain rfl : k = (behS S).length := by rw [behS_len]; omega
              have hsl : (behS S).length = S.length := behS_len S
              have HSL := Lib.hid hsl
              have hown := WQ.out
              rw [List.take_of_length_le (by omega)] at hown
              obtain ⟨A4, c4, f4, he, _, hsp, _, _⟩ := own_sprs hown
              injection he with e1 _ e3
              subst e1 e3
              have hnx := HNB.out
              have HG : Hid (SHas wr (some ⟨bm, 0, none⟩) (some ⟨b2, 0, none⟩) A' fullF (behS S) [bm] [b2] f4) := Lib.hid ⟨⟨I5.out.keep (.of_only OQ.out fun b hb hx => by simp at hb hx; omega), J5.out.keep (.of_only OQ.out fun b hb hx => by simp at hb hx; omega)⟩, hsp⟩
              have HSG : Hid (SSmall fullF (behS S)) := Lib.hid ⟨⟨by show 1 ≤ 1000000000; omega, by show 1 ≤ 1000000000; omega⟩, by omega⟩
              have BQ : Hid (Below w.heap.size w wr) := Lib.hid (B5.out.trans (OQ.out.below (fun b hb => by simp at hb; omega) B5.out.size))
              have HT : Hid (scLT fullF (behS S) y = lineF fullF y) := Lib.hid (by rw [scLT_yes (beh_ok HV.out) hyb]; exact scL_beh S y)
              have HT2 : Hid (lineT fullF y = lineF fullF y) := Lib.hid (lineT_yes fullF_ok hyb)
              have hnk : ¬ ((behS S).length : Int) < S.length := by omega
              clear hown hsp WQ hsl
              go_wp2_with (first | (refine sc_load (by rfl) _ rfl bx rfl YQ.out ?_))
              refine (im_scnLine fullF (some ⟨bm, 0, none⟩) 1 (some ⟨b2, 0, none⟩) 1 (behS S) A' c' [bm] [b2] f4 y _ HG.out HSG.out).mono ?_
              rw [HT.out, lineF_len]
              rintro e w11 ⟨R, r, l, rfl, _, hi, _, bl⟩
              have YG := Lib.hid (YQ.out.below bl)
              have HG1 := Lib.hid (HG.out.below bl)
              have BG := Lib.hid (below_then BQ.out bl)
              have IG := Lib.hid hi
              clear hi bl YQ HG BQ
              go_wp2_with (first | (refine sc_back (by rfl) _ rfl bx rfl YG.out ?_))
              refine (im_fieldLine fullF (some ⟨bm, 0, none⟩) 1 (some ⟨b2, 0, none⟩) 1 [bm] [b2] y _ HG1.out.1 HSG.out.1).mono ?_
              rw [HT2.out, lineF_len]
              rintro e w12 ⟨R2, r2, l2, rfl, _, hi, _, bl⟩
              have YG2 := Lib.hid (YG.out.below bl)
              have HG2 := Lib.hid (HG1.out.below bl)
              have BG2 := Lib.hid (below_then BG.out bl)
              have IG2 := Lib.hid (IG.out.below bl)
              have JG2 := Lib.hid hi
              clear hi bl YG HG1 BG IG
              go_wp2_with fail
              refine (same_ints R R2 32 r r2 (lineF fullF y) l l2 _ IG2.out JG2.out (by omega)).mono ?_; rintro e w13 ⟨rfl, q, hq⟩
              have bl : Below w12.heap.size w12 w13 := by rw [hq]; exact below_drewN (Below.refl _ _) _
              clear hq JG2
              have YG3 := Lib.hid (YG2.out.below bl)
              have HG3 := Lib.hid (HG2.out.below bl)
              have BG3 := Lib.hid (below_then BG2.out bl)
              have IG3 := Lib.hid (IG2.out.below bl)
              clear bl YG2 HG2 BG2 IG2
              go_wp2_with (first | (refine sc_load (by rfl) _ rfl bx rfl YG3.out ?_))
              refine (spec_scnLine fullF (some ⟨bm, 0, none⟩) 1 (some ⟨b2, 0, none⟩) 1 (behS S) A' c' [bm] [b2] f4 y _ HG3.out HSG.out).mono ?_
              rw [HT.out, lineF_len]
              rintro e w14 ⟨R3, r3, l3, rfl, _, hi, _, bl⟩
              have BG4 := Lib.hid (below_then BG3.out bl)
              have IG4 := Lib.hid (IG3.out.below bl)
              have JG4 := Lib.hid hi
              clear hi bl YG3 HG3 BG3 IG3
              go_wp2_with fail
              refine (same_ints R R3 32 r r3 (lineF fullF y) l l3 _ IG4.out JG4.out (by omega)).mono ?_; rintro e w15 ⟨rfl, q, hq⟩
              have bl : Below w14.heap.size w14 w15 := by rw [hq]; exact below_drewN (Below.refl _ _) _
              have BG5 := Lib.hid (below_then BG4.out bl)
              clear hq bl
              go_wp2_with fail
              go_ret
              exact ⟨rfl, BG5.out⟩
    · cases V
      · go_wp2_with fail
        refine (alive_any _).mono ?_; rintro e w' ⟨rfl, rfl⟩
        go_wp2_with fail
        go_ret
        exact ⟨rfl, B3.out⟩
      · by_cases y0 : y < 0
        · go_wp2_with fail
          refine (alive_any _).mono ?_; rintro e w' ⟨rfl, rfl⟩
          go_wp2_with fail
          go_ret
          exact ⟨rfl, B3.out⟩
        · have y1 : 16 ≤ y := by
            by_cases h : 16 ≤ y
            · exact h
            · exact absurd ⟨rfl, by omega, by omega⟩ hok
          go_wp2_with fail
          refine (alive_any _).mono ?_; rintro e w' ⟨rfl, rfl⟩
          go_wp2_with fail
          go_ret
          exact ⟨rfl, B3.out⟩
  · have hs' : 1048576 < len0 := by omega
    go_enter Try.func9, Try.ntmps9
    go_wp2_with fail
    go_ret
    exact ⟨rfl, Below.refl _ _⟩
end Go.Proofs.Ytacebhncecninaa
