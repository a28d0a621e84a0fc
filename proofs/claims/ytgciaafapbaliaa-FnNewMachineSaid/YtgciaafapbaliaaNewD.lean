/- Drawn rows for a new memory: one to three banks, or none, or the first too short, or too many. -/
import Derived.Test.YtgciaafapbaliaaRomD
import Derived.Deep.RegionLaw
import Derived.Deep.AppendLies
namespace Go.Proofs.Ytgciaafapbaliaa
open Go.ChangeShapes Go.WideShapes Go.ChangeAt Go.RowKit

/-- The first row, made shorter by its first number. -/
theorem Grid.shorten {w : World} {A : Option Addr} {n L : Nat} {rs : List (List Int)} {fp : List Nat} (h : Grid w A n rs fp) (nw : New L w fp) (hn : 0 < n) (hl : (rs.getD 0 []).length = 256) :
    ∃ g o b p c, A = some ⟨g, o, none⟩ ∧ g < w.heap.size ∧ L ≤ g ∧ w.cell? ⟨g, o, none⟩ = some (.slice (some ⟨b, p, none⟩) 256 c) ∧ w.frozen? ⟨g, o, none⟩ = false ∧ 256 ≤ c ∧
      Grid (w.setCell ⟨g, o, none⟩ (.slice (some ⟨b, p + 1, none⟩) 255 (c - 1))) A n (rs.set 0 (rs.getD 0 []).tail) fp ∧ New L (w.setCell ⟨g, o, none⟩ (.slice (some ⟨b, p + 1, none⟩) 255 (c - 1))) fp := by
  obtain ⟨D, rfl, hlD, hr, ⟨h0, rfl⟩ | ⟨_, g, o, rfl, rfl, hb, hc⟩⟩ := h
  · omega
  · cases D with
    | nil => simp at hlD; omega
    | cons r D =>
      have hx : ((r :: D).map Row.xs).getD 0 [] = r.xs := by simp [List.getD]
      rw [hx] at hl ⊢
      obtain ⟨rc, ri⟩ := hr r (by simp)
      have rn : r.n = 256 := by rw [← ri.1]; exact hl
      obtain ⟨b, p, ha, hf, hbl, hcl⟩ := ri.at_ (by omega)
      have nd := nw.once
      rw [List.nodup_cons] at nd
      have gb : g ≠ b := by
        rintro rfl
        exact nd.1 (by rw [List.flatMap_cons, hf]; simp)
      have c0 := hc 0 r rfl
      have v0 : r.val = .slice (some ⟨b, p, none⟩) 256 r.c := by unfold Row.val; rw [ha, rn]
      rw [v0, Nat.add_zero] at c0
      have sm : Same (List.flatMap Row.fp (r :: D)) w (w.setCell ⟨g, o, none⟩ (.slice (some ⟨b, p + 1, none⟩) 255 (r.c - 1))) :=
        ⟨by simp, fun x hx _ => Below.heap_setCell w _ _ x (by rintro rfl; exact nd.1 hx)⟩
      refine ⟨g, o, b, p, r.c, rfl, hb, (nw.lt g (by simp)).1, c0, nw.free g (by simp) o, by omega, ?_, ?_⟩
      · refine ⟨⟨some ⟨b, p + 1, none⟩, 255, r.c - 1, r.xs.tail, r.fp⟩ :: D, by simp, by simpa using hlD, fun s hs => ?_, .inr ⟨hn, g, o, rfl, by simp, by simpa using hb, fun i s hi => ?_⟩⟩
        · rcases List.mem_cons.1 hs with rfl | hs
          · refine ⟨by show 255 ≤ r.c - 1; omega, by simp [hl], .inr ⟨by show 0 < 255; omega, b, p + 1, rfl, hf, by simpa using hbl, fun i hi => ?_⟩⟩
            have e := hcl (i + 1) (by have : i < 255 := hi; omega)
            refine (World.cell?_setCell_other _ _ _ _ (fun h => gb (congrArg Addr.block h))).trans ?_
            rw [show p + 1 + i = p + (i + 1) by omega, e]
            simp [List.getD]
          · exact ⟨(hr s (by simp [hs])).1, (hr s (by simp [hs])).2.keep (sm.sub fun x hx => List.mem_flatMap.2 ⟨s, by simp [hs], hx⟩)⟩
        · cases i with
          | zero =>
            simp at hi; subst hi
            exact World.cell?_setCell_same _ _ _ c0
          | succ i =>
            have e := hc (i + 1) s (by simpa using hi)
            exact (World.cell?_setCell_other _ _ _ _ (fun h => by have := congrArg Addr.off h; simp at this)).trans e
      · exact ⟨nw.once, fun x hx => by simpa using nw.lt x hx, fun x hx o => by simpa using nw.free x hx o⟩
/-- Rows that a value owns. -/
theorem own_grid {w : World} {L n : Nat} {v : Value} {D : List Row} (h : w.ownsRow L 23 1 v n (D.map Row.val)) (hl : D.length = n) (ok : ∀ r ∈ D, RowOk w r) (h0 : 0 < n) : ∃ R d fr, v = .slice R n d ∧ n ≤ d ∧ Grid w R n (D.map Row.xs) fr := by
  rcases h.2 with ⟨rfl, h0⟩ | ⟨g, cap, cur, rfl, hb, hh, hnc, _, hsz, hcur⟩
  · omega
  · have hlt := (own_lt h g rfl).2
    refine ⟨_, cap, g :: D.flatMap Row.fp, rfl, hnc, ⟨D, rfl, hl, ok, .inr ⟨by omega, g, 0, rfl, rfl, hlt, fun i r hi => ?_⟩⟩⟩
    have hi' : i < n := by have := (List.getElem?_eq_some_iff.1 hi).1; omega
    rw [cell_of_row w g (0 + i) cur _ (0, 0) hh, Nat.zero_add]
    have e : (cur.toList.take (n * 1))[i]? = (D.map Row.val)[i]? := by rw [hcur]
    rw [List.getElem?_take, if_pos (by omega), List.getElem?_map, hi] at e
    simpa using e
/-- What a draw of rows leaves. -/
def RowsDrawn (w : World) (e : Ending) (w' : World) : Prop :=
  ∃ (R : Option Addr) (k d : Nat) (rs : List (List Int)) (fr : List Nat), e = .returned (.slice R k d) ∧ k ≤ d ∧ k ≤ 7 ∧ Grid w' R k rs fr ∧ (∀ i, (rs.getD i []).length ≤ 256) ∧ (k ≤ 4 → New w.heap.size w' fr) ∧ Below w.heap.size w w'
theorem rows_small {rs : List (List Int)} {k : Nat} (hl : rs.length = k) (hb : ∀ i, i < k → bankB (rs.getD i []) = true) : ∀ i, (rs.getD i []).length ≤ 256 := fun i => by
  by_cases hi : i < k
  · rw [(bankB_yes (hb i hi)).1]; omega
  · simp [List.getD, List.getElem?_eq_none (show rs.length ≤ i by omega)]
theorem set_small {rs : List (List Int)} {xs : List Int} (h : ∀ i, (rs.getD i []).length ≤ 256) (hx : xs.length ≤ 256) : ∀ i, ((rs.set 0 xs).getD i []).length ≤ 256 := fun i => by
  cases rs with
  | nil => simp [List.getD]
  | cons r rs =>
    cases i with
    | zero => simpa [List.getD] using hx
    | succ i => simpa [List.getD] using h (i + 1)
theorem Grow.first {w : World} {L : Nat} {rs : List (List Int)} {k : Nat} {v : Value} {D : List Row} (h : Grow w L rs k v D) (hk : 1 ≤ k) :
    ∃ g d r D', v = .slice (some ⟨g, 0, none⟩) k d ∧ D = r :: D' ∧ w.cell? ⟨g, 0, none⟩ = some (.slice r.a r.n r.c) ∧ g < w.heap.size := by
  cases D with
  | nil => have := h.len; simp at this; omega
  | cons r D' =>
    rcases h.own.2 with ⟨_, h0⟩ | ⟨g, cap, cur, rfl, hb, hh, hnc, _, hsz, hcur⟩
    · omega
    · refine ⟨g, cap, r, D', rfl, rfl, ?_, (own_lt h.own g rfl).2⟩
      rw [cell_of_row w g 0 cur _ (0, 0) hh]
      have e : (cur.toList.take (k * 1))[0]? = ((r :: D').map Row.val)[0]? := by rw [hcur]
      rw [List.getElem?_take, if_pos (by omega)] at e
      simpa [Row.val] using e
theorem Grow.four {w W w5 : World} {L : Nat} {rs : List (List Int)} {k : Nat} {v : Value} {r : Row} {D' : List Row} (h : Grow w L rs k v (r :: D')) (hl : rs.length = k) (hs : ∀ i, (rs.getD i []).length ≤ 256) (bW : Below w.heap.size w W) {g cap : Nat}
    (own5 : w5.ownsRow L 23 1 (.slice (some ⟨g, 0, none⟩) (k + 4) cap) (k + 4) ((r :: D').map Row.val ++ [r.val, r.val, r.val, r.val])) (gr : W.grownBy w5 v.ownBlock) :
    ∃ rs' fr, k + 4 ≤ cap ∧ Grid w5 (some ⟨g, 0, none⟩) (k + 4) rs' fr ∧ ∀ i, (rs'.getD i []).length ≤ 256 := by
  have hx : (r :: D').map Row.xs = rs := by rw [h.xs, List.take_of_length_le (by omega)]
  have hW := h.below bW
  obtain ⟨S, hS1, hS2⟩ : ∃ S : List Nat, (∀ b, v.ownBlock = some b → b ∈ S) ∧ ∀ b ∈ S, v.ownBlock = some b := by
    rcases hv : v.ownBlock with _ | b
    · exact ⟨[], by simp, by simp⟩
    · exact ⟨[b], by simp, by simp⟩
  have o5 : Only S W w5 := grown_only gr hS1
  have sub : ∀ s ∈ (r :: D') ++ [r, r, r, r], s ∈ r :: D' := fun s hs => by
    rcases List.mem_append.1 hs with hs | hs
    · exact hs
    · simp at hs; subst hs; simp
  have own6 : w5.ownsRow L 23 1 (.slice (some ⟨g, 0, none⟩) (k + 4) cap) (k + 4) (((r :: D') ++ [r, r, r, r]).map Row.val) := by
    rw [List.map_append]; exact own5
  obtain ⟨R, d, fr, hv, hd, gg⟩ := own_grid own6 (by rw [List.length_append, h.len]; rfl) (fun s hs => ⟨(hW.ok s (sub s hs)).1, (hW.ok s (sub s hs)).2.keep (.of_only o5 fun x hx hS => h.off x (List.mem_flatMap.2 ⟨s, sub s hs, hx⟩) (hS2 x hS))⟩) (by omega)
  injection hv with v1 v2 v3
  subst v1 v3
  refine ⟨_, fr, hd, gg, fun i => ?_⟩
  rw [List.getD_eq_getElem?_getD, List.getElem?_map]
  rcases hi : ((r :: D') ++ [r, r, r, r])[i]? with _ | s
  · simp
  · have hm := sub s (List.mem_of_getElem? hi)
    have hm2 : s.xs ∈ rs := by rw [← hx]; exact List.mem_map.2 ⟨s, hm, rfl⟩
    obtain ⟨j, hj, e⟩ := List.mem_iff_getElem.1 hm2
    have := hs j
    rw [List.getD_eq_getElem?_getD, List.getElem?_eq_getElem hj, e] at this
    simpa using this
set_option maxRecDepth 100000 in
set_option maxHeartbeats 2000000 in
theorem draw_rows (a : Option Addr) (len cap : Nat) (zs : List Int) (w : World) (h : IsRow .u8 w a len cap zs) :
    Calls Try.prog 35 #[.slice a len cap] w (RowsDrawn w) := by
  have H := Lib.hid h
  clear h
  obtain ⟨i0, hi0, hz0, hz1, hz2⟩ := info_parts infoInts
  go_enter Try.func35, Try.ntmps35
  go_wp2_with fail
  refine (open_any a len cap zs _ H.out).mono ?_
  rintro e w1 ⟨rfl, b1, r1⟩
  have B1 := Lib.hid b1
  have R1 := Lib.hid r1
  have q1 : w.heap.size < w1.heap.size := r1.lt
  clear b1 r1 H
  go_wp2_with fail
  refine (rom_any w.heap.size 0 _ R1.out (by omega)).mono ?_
  rintro e w2 ⟨R, k, d, rs, fr, rfl, hd, k1, k3, g2, n2, hb2, o2, r2, D, gr2⟩
  have HL := Lib.hid g2.len
  have SR := Lib.hid (rows_small g2.len hb2)
  have S0 := Lib.hid (bankB_yes (hb2 0 (by omega))).1
  have B2 := Lib.hid (B1.out.trans (o2.below (by simp) (Nat.le_of_lt q1)))
  have R2 := Lib.hid r2
  have G2 := Lib.hid gr2
  clear g2 n2 hb2 o2 r2 gr2 B1 R1
  go_wp2_with fail
  refine (odd_any w.heap.size _ 5 _ R2.out (by omega) (by omega) (by omega)).mono ?_
  rintro e w3 ⟨b, rfl, s3, r3⟩
  have B3 := Lib.hid (B2.out.trans (s3.only.below (by simp) B2.out.size))
  have G3 := Lib.hid (G2.out.only s3.only (by simpa using q1))
  have R3 := Lib.hid r3
  clear s3 r3 B2 G2 R2
  cases b
  · go_wp2
    go_ret
    obtain ⟨R', d', fr', hv, hd', g', n'⟩ := G3.out.grid HL.out
    injection hv with v1 v2 v3
    subst v1 v3
    exact ⟨R, k, d, rs, fr', rfl, hd, by omega, g', SR.out, fun _ => n'.mono (Nat.le_of_lt q1), B3.out⟩
  · go_wp2_with fail
    refine (pick_any w.heap.size _ 3 _ R3.out (by omega) (by omega) (by omega)).mono ?_
    rintro e w4 ⟨v, v0, v1, rfl, s4, r4⟩
    have B4 := Lib.hid (B3.out.trans (s4.only.below (by simp) B3.out.size))
    have G4 := Lib.hid (G3.out.only s4.only (by simpa using q1))
    clear s4 r4 B3 G3 R3
    have hv : v = 0 ∨ v = 1 ∨ v = 2 := by omega
    rcases hv with rfl | rfl | rfl
    · go_wp2
      go_ret
      exact ⟨_, 0, 0, [], [], rfl, by omega, by omega, .nil _ _, by simp [List.getD], fun _ => .nil _ _, B4.out.alloc B4.out.size _⟩
    · obtain ⟨R', d', fr', hv, hd', g', n'⟩ := G4.out.grid HL.out
      injection hv with v1 v2 v3
      subst v1 v3
      obtain ⟨g, o, b, p, c, rfl, hg, hLg, hc, hf, hc256, gg, nn⟩ := g'.shorten n' (by omega) S0.out
      have GG := Lib.hid gg
      have NN := Lib.hid nn
      clear g' n' gg nn
      have hk : (0 : Int) < (k : Int) := by omega
      have e1 : (256 : Int) ≤ (c : Int) := by omega
      go_wp2_with fail
      go_ret
      exact ⟨_, k, d, _, fr', rfl, hd, by omega, GG.out, set_small SR.out (by rw [List.length_tail, S0.out]; omega), fun _ => NN.out.mono (Nat.le_of_lt q1), B4.out.setCell (by show w.heap.size ≤ g; omega) _⟩
    · obtain ⟨g, d', r, D', hv, rfl, hc, hg⟩ := G4.out.first k1
      injection hv with v1 v2 v3
      subst v1 v3
      have hk : (0 : Int) < (k : Int) := by omega
      have hkn : 0 < k := k1
      have BD : Hid (Below w4.heap.size w4 w4.drew) := (Below.refl _ _).drew
      have z4 : w1.heap.size ≤ w4.heap.size := Nat.le_trans (own_lt G4.out.own g rfl).1 (Nat.le_of_lt hg)
      go_wp2_with fail
      go_region_law (
          (refine step_append_lies _ (by rfl) (.tmp 13) (.tmp 26) 24 (by rfl) w1.heap.size 23 i0 _ 1 24 Try.underlying24 hi0 hz0 hz1 hz2 rfl (by omega) _ k ((r :: D').map Row.val) (by rfl) (by exact own_keep G4.out.own (BD.out.alloc BD.out.size _)) ⟨w4.heap.size, 0, none⟩ 4 4 [r.val, r.val, r.val, r.val] (by rfl) (by rfl) (World.news_of_block (cs := #[r.val, r.val, r.val, r.val]) (t := 23) (fr := (0, 0)) (heap_alloc_new w4.drew _)) (by simp [Value.oneCell', Row.val]) (by omega) (by unfold maxLen; omega) (by omega) (by simp; omega) _ rfl ?_; intro g5 cap5 w5 own5 gr5 hat5 hlt5; have F5 := Lib.hid (G4.out.four HL.out SR.out (BD.out.alloc BD.out.size _) own5 gr5); have B5 := Lib.hid (((B4.out.trans (BD.out.mono B4.out.size)).alloc (Nat.le_trans B4.out.size BD.out.size) _).grown gr5 (by have := B4.out.size; simp; omega) (fun b hb => by have := (own_lt G4.out.own b hb).1; omega)); clear own5 gr5 hat5 hlt5))
      all_goals go_wp2
      all_goals go_ret
      all_goals
        obtain ⟨rs', fr', hc5, g5', hs5⟩ := F5.out
        exact ⟨_, k + 4, _, rs', fr', rfl, hc5, by omega, g5', hs5, fun h => by omega, B5.out⟩
end Go.Proofs.Ytgciaafapbaliaa
