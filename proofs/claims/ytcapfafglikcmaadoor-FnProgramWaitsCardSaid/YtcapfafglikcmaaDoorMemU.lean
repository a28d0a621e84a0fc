/- Contracts of the model's functions on memory (chapter 2): a copy. -/
import Derived.Test.YtcapfafglikcmaaDoorKF
import Derived.Deep.DeepCutAuto
namespace Go.Proofs.YtcapfafglikcmaaDoor
open Go.ChangeShapes Go.WideShapes Go.ChangeAt Go.RowKit

/-- What the copy has come to: the working memory is copied, j rows are. -/
structure CopyIn (w wr : World) (q L : Nat) (A1 : Option Addr) (n d1 : Nat) (M : Mem) (fp : List Nat) (bx : List Value) (j : Nat) (v : Value) (D : List Row) : Prop where
  grow : Grow wr L M.rom j v D
  top : L ≤ wr.heap.size
  ram : Ints wr A1 n M.ram fp
  cap : n ≤ d1
  new : New (w.heap.size + 1 + 1) wr fp
  lt : ∀ b ∈ fp, b < L
  off : q ∉ fp
  lo : w.heap.size + 1 + 1 ≤ q ∧ q < L
  below : Below w.heap.size w wr
  x0 : Box wr w.heap.size 26 bx
  x1 : Box wr (w.heap.size + 1) 26 [.slice none 0 0, .slice none 0 0, .int .i64 0]
  xq : Box wr q 26 [.slice A1 n d1, v, .int .i64 M.bank]
theorem copy_round {w wr w2 : World} {q L : Nat} {A1 : Option Addr} {n d1 : Nat} {M : Mem} {fp : List Nat} {bx : List Value} {k j : Nat} {v v' : Value} {D D' : List Row} (hj : j < k) (h : CopyIn w wr q L A1 n d1 M fp bx j v D) (gn : Grow w2 L M.rom (j + 1) v' D') (b2 : Below L wr w2) :
    ∃ (i : Nat) (u : Value) (E : List Row), i ≤ k ∧ Value.int .i64 ((j : Int) + 1) = .int .i64 i ∧ CopyIn w (w2.setCell ⟨q, 1, none⟩ v') q L A1 n d1 M fp bx i u E := by
  have o : Only [q] w2 (w2.setCell ⟨q, 1, none⟩ v') := (Only.refl _ w2).setCell (.inl (by simp)) _
  have lo := h.lo
  have tp := h.top
  have s2 := b2.size
  have s : Same fp wr (w2.setCell ⟨q, 1, none⟩ v') := ⟨by simpa using b2.size, fun b hb _ => (o.block b (by have := h.lt b hb; omega) (fun e => by simp at e; subst e; exact h.off hb)).trans (b2.block b (h.lt b hb))⟩
  exact ⟨j + 1, v', D', by omega, by go_num, gn.only o (by simp; omega), by simp; omega, h.ram.keep s, h.cap, h.new.keep s, h.lt, h.off, lo, (h.below.trans (b2.mono (by omega))).setCell (by simp; omega) _, (h.x0.keep b2 (by omega)).far (by omega) _, (h.x1.keep b2 (by omega)).far (by omega) _, (h.xq.keep b2 (by omega)).set 1 _⟩
/-- The working memory was copied (into w1), and block q was laid for the copy: behind the append, or ahead of it. -/
theorem copy_after {w W w1 : World} {A1 : Option Addr} {n d1 : Nat} {M : Mem} {fp : List Nat} {bx : List Value} (hi : Ints w1 A1 n M.ram fp) (hn : New W.heap.size w1 fp) (hd : n ≤ d1) (b1 : Below W.heap.size W w1) (B0 : Below w.heap.size w W) (zW : w.heap.size + 1 < W.heap.size) (X0 : Box W w.heap.size 26 bx) (X1 : Box W (w.heap.size + 1) 26 [.slice none 0 0, .slice none 0 0, .int .i64 0]) :
    CopyIn w (w1.alloc (.cells #[.slice A1 n d1, .slice none 0 0, .int .i64 M.bank] 26)) w1.heap.size (w1.heap.size + 1) A1 n d1 M fp bx 0 (.slice none 0 0) [] := by
  have s1 := b1.size
  have k1 := below1 w1 (.cells #[.slice A1 n d1, .slice none 0 0, .int .i64 M.bank] 26)
  refine ⟨Grow.none_ _ _ _, by simp, hi.below k1, hd, (hn.mono (by omega)).keep (.of_below k1), fun b hb => by have := (hn.lt b hb).2; omega, fun hb => by have := (hn.lt _ hb).2; omega, by omega, ((B0.trans (b1.mono B0.size)).alloc (by omega) _), (X0.below b1).alloc _, (X1.below b1).alloc _, Box.new w1 _ _⟩
theorem copy_before {w W w1 : World} {q : Nat} {A1 : Option Addr} {n d1 : Nat} {M : Mem} {fp : List Nat} {bx : List Value} (hi : Ints w1 A1 n M.ram fp) (hn : New W.heap.size w1 fp) (hq : q ∉ fp) (hd : n ≤ d1) (b1 : Below W.heap.size W w1) (B0 : Below w.heap.size w W) (zW : w.heap.size + 1 < W.heap.size) (X0 : Box W w.heap.size 26 bx) (X1 : Box W (w.heap.size + 1) 26 [.slice none 0 0, .slice none 0 0, .int .i64 0])
    (hqW : W.heap.size ≤ q) (xq : Box w1 q 26 [.slice none 0 0, .slice none 0 0, .int .i64 0]) :
    CopyIn w (((w1.setCell ⟨q, 0, none⟩ (.slice A1 n d1)).setCell ⟨q, 1, none⟩ (.slice none 0 0)).setCell ⟨q, 2, none⟩ (.int .i64 M.bank)) q w1.heap.size A1 n d1 M fp bx 0 (.slice none 0 0) [] := by
  have s1 := b1.size
  have lq := xq.lt
  have o : Only [q] w1 (((w1.setCell ⟨q, 0, none⟩ (.slice A1 n d1)).setCell ⟨q, 1, none⟩ (.slice none 0 0)).setCell ⟨q, 2, none⟩ (.int .i64 M.bank)) := (((Only.refl _ w1).setCell (.inl (by simp)) _).setCell (.inl (by simp)) _).setCell (.inl (by simp)) _
  have s : Same fp w1 (((w1.setCell ⟨q, 0, none⟩ (.slice A1 n d1)).setCell ⟨q, 1, none⟩ (.slice none 0 0)).setCell ⟨q, 2, none⟩ (.int .i64 M.bank)) := .of_only o fun x hx e => by simp at e; subst e; exact hq hx
  refine ⟨Grow.none_ _ _ _, by simp, hi.keep s, hd, (hn.mono (by omega)).keep s, fun b hb => (hn.lt b hb).2, hq, by omega, (B0.trans (b1.mono B0.size)).trans (o.below (by simp; omega) (by omega)), (X0.below b1).only o (by simp; omega), (X1.below b1).only o (by simp; omega), ((xq.set 0 _).set 1 _).set 2 _⟩
/-- A literal laid beside the copy's own block. -/
theorem own_empty_then (w : World) (t : TypeId) (o : Obj) : ((w.alloc (.cells #[] t)).alloc o).drew.ownsRow w.heap.size t 1 (.slice (some ⟨w.heap.size, 0, none⟩) 0 0) 0 [] := (own_keep (own_empty w t w.heap.size (Nat.le_refl _)) (below1 _ o)).drew
theorem own_empty_after (w : World) (t : TypeId) (o : Obj) : ((w.alloc o).alloc (.cells #[] t)).drew.ownsRow w.heap.size t 1 (.slice (some ⟨w.heap.size + 1, 0, none⟩) 0 0) 0 [] := by
  have := (own_empty (w.alloc o) t w.heap.size (by simp)).drew
  rwa [show (w.alloc o).heap.size = w.heap.size + 1 from by simp] at this
theorem cell_set3 {w1 : World} {q b i : Nat} {u v x y : Value} (h : w1.cell? ⟨b, i, none⟩ = some y) (hb : b ≠ q) : (((w1.setCell ⟨q, 0, none⟩ u).setCell ⟨q, 1, none⟩ v).setCell ⟨q, 2, none⟩ x).cell? ⟨b, i, none⟩ = some y := by
  have o : Only [q] w1 (((w1.setCell ⟨q, 0, none⟩ u).setCell ⟨q, 1, none⟩ v).setCell ⟨q, 2, none⟩ x) := (((Only.refl _ w1).setCell (.inl (by simp)) _).setCell (.inl (by simp)) _).setCell (.inl (by simp)) _
  exact (World.cell?_of_block (a := ⟨b, i, none⟩) (o.block b (World.block_lt_of_cell? _ _ h) (by simpa using hb))).trans h
theorem cell_alloc {w1 : World} {b i : Nat} {y : Value} {o : Obj} (h : w1.cell? ⟨b, i, none⟩ = some y) : (w1.alloc o).cell? ⟨b, i, none⟩ = some y := by
  rw [World.cell?_alloc_lt _ _ _ (World.block_lt_of_cell? _ _ h)]; exact h
theorem fp_off {v : Value} {fp : List Nat} {l q s : Nat} (hown : ∀ x ∈ fp, v.ownBlock = some x) (hat : v.ownBlock = some l ∨ v.ownBlock = some s) (h1 : l ≠ q) (h2 : s ≠ q) : q ∉ fp := by
  intro hq
  have e := hown q hq
  rcases hat with h | h
  · rw [h] at e; injection e with e; exact h1 e
  · rw [h] at e; injection e with e; exact h2 e
set_option maxHeartbeats 4000000 in
theorem l2Copy_any (A : Option Addr) (n c : Nat) (R : Option Addr) (k d : Nat) (M : Mem) (fa fr : List Nat) (w : World) (hi : Ints w A n M.ram fa) (hg : Grid w R k M.rom fr) (hn : n ≤ 1000000000) (hk : k ≤ 1000000000) (hs : ∀ i, (M.rom.getD i []).length ≤ 1000000000) :
    Calls Tryd.prog 46 #[.agg #[.slice A n c, .slice R k d, .int .i64 M.bank]] w (MemNew M w) := by
  have HI := Lib.hid hi
  have HG := Lib.hid hg
  have HS := Lib.hid hs
  have HL := Lib.hid hg.len
  clear hi hg hs
  obtain ⟨i0, hi0, hz0, hz1, hz2⟩ := info_parts infoInts
  go_enter Tryd.func46, Tryd.ntmps46
  go_wp2_with fail
  obtain ⟨W, hW⟩ : ∃ W, W = (w.alloc (.cells #[.slice A n c, .slice R k d, .int .i64 M.bank] 26)).alloc (.cells #[.slice none 0 0, .slice none 0 0, .int .i64 0] 26) := ⟨_, rfl⟩
  rw [← hW]
  have B0 : Hid (Below w.heap.size w W) := by rw [hW]; exact below2 w _ _
  have X0 : Hid (Box W w.heap.size 26 [.slice A n c, .slice R k d, .int .i64 M.bank]) := by rw [hW]; exact (Box.new w _ _).alloc _
  have X1 : Hid (Box W (w.heap.size + 1) 26 [.slice none 0 0, .slice none 0 0, .int .i64 0]) := by rw [hW]; exact Box.new_at (w.alloc _) _ _ _ (by simp)
  have zW : w.heap.size + 1 < W.heap.size := X1.out.lt
  clear hW
  go_cut [3] (fun t3 wc => ∃ (q L : Nat) (A1 : Option Addr) (d1 : Nat) (fp : List Nat), t3 = .pointer (some ⟨q, 0, none⟩) ∧ CopyIn w wc q L A1 n d1 M fp [.slice A n c, .slice R k d, .int .i64 M.bank] 0 (.slice none 0 0) [])
  case first =>
    have a0 : W.cell? ⟨w.heap.size, 0, none⟩ = some (.slice A n c) := X0.out.cell 0
    have a2 : W.cell? ⟨w.heap.size, 2, none⟩ = some (.int .i64 M.bank) := X0.out.cell 2
    have hp2 : w.heap.size < W.heap.size := by omega
    have IW := Lib.hid (HI.out.below B0.out)
    have E1 : Hid ((W.alloc (.cells #[] 3)).drew.ownsRow W.heap.size 3 1 (.slice (some ⟨W.heap.size, 0, none⟩) 0 0) 0 (iv [])) := (own_empty W 3 W.heap.size (Nat.le_refl _)).drew
    have E2 : Hid (((W.alloc (.cells #[] 3)).alloc (.cells #[.slice none 0 0, .slice none 0 0, .int .i64 0] 26)).drew.ownsRow W.heap.size 3 1 (.slice (some ⟨W.heap.size, 0, none⟩) 0 0) 0 (iv [])) := own_empty_then W _ _
    have E3 : Hid (((W.alloc (.cells #[.slice none 0 0, .slice none 0 0, .int .i64 0] 26)).alloc (.cells #[] 3)).drew.ownsRow W.heap.size 3 1 (.slice (some ⟨W.heap.size + 1, 0, none⟩) 0 0) 0 (iv [])) := own_empty_after W _ _
    have BR1 : Hid (Below W.heap.size W (W.alloc (.cells #[] 3)).drew) := (below1 W _).drew
    have BR2 : Hid (Below W.heap.size W ((W.alloc (.cells #[] 3)).alloc (.cells #[.slice none 0 0, .slice none 0 0, .int .i64 0] 26)).drew) := (below2 W _ _).drew
    have BR3 : Hid (Below W.heap.size W ((W.alloc (.cells #[.slice none 0 0, .slice none 0 0, .int .i64 0] 26)).alloc (.cells #[] 3)).drew) := (below2 W _ _).drew
    have J1 := Lib.hid (IW.out.below BR1.out)
    have J2 := Lib.hid (IW.out.below BR2.out)
    have J3 := Lib.hid (IW.out.below BR3.out)
    have XQ2 : Hid (Box ((W.alloc (.cells #[] 3)).alloc (.cells #[.slice none 0 0, .slice none 0 0, .int .i64 0] 26)).drew (W.heap.size + 1) 26 [.slice none 0 0, .slice none 0 0, .int .i64 0]) := Box.new_at (W.alloc _) _ _ _ (by simp)
    have XQ3 : Hid (Box ((W.alloc (.cells #[.slice none 0 0, .slice none 0 0, .int .i64 0] 26)).alloc (.cells #[] 3)).drew W.heap.size 26 [.slice none 0 0, .slice none 0 0, .int .i64 0]) := (Box.new W _ _).alloc _
    have K0 : Hid ((W.drew).cell? ⟨w.heap.size, 0, none⟩ = some (.slice A n c) ∧ (W.drew).cell? ⟨w.heap.size, 2, none⟩ = some (.int .i64 M.bank)) := ⟨a0, a2⟩
    have K1 : Hid (((W.alloc (.cells #[] 3)).drew).cell? ⟨w.heap.size, 0, none⟩ = some (.slice A n c) ∧ ((W.alloc (.cells #[] 3)).drew).cell? ⟨w.heap.size, 2, none⟩ = some (.int .i64 M.bank)) := ⟨cell_alloc a0, cell_alloc a2⟩
    have K2 : Hid ((((W.alloc (.cells #[] 3)).alloc (.cells #[.slice none 0 0, .slice none 0 0, .int .i64 0] 26)).drew).cell? ⟨w.heap.size, 0, none⟩ = some (.slice A n c) ∧ (((W.alloc (.cells #[] 3)).alloc (.cells #[.slice none 0 0, .slice none 0 0, .int .i64 0] 26)).drew).cell? ⟨w.heap.size, 2, none⟩ = some (.int .i64 M.bank)) := ⟨cell_alloc (cell_alloc a0), cell_alloc (cell_alloc a2)⟩
    have K3 : Hid (((W.alloc (.cells #[.slice none 0 0, .slice none 0 0, .int .i64 0] 26)).drew).cell? ⟨w.heap.size, 0, none⟩ = some (.slice A n c) ∧ ((W.alloc (.cells #[.slice none 0 0, .slice none 0 0, .int .i64 0] 26)).drew).cell? ⟨w.heap.size, 2, none⟩ = some (.int .i64 M.bank)) := ⟨cell_alloc a0, cell_alloc a2⟩
    have K4 : Hid ((((W.alloc (.cells #[.slice none 0 0, .slice none 0 0, .int .i64 0] 26)).alloc (.cells #[] 3)).drew).cell? ⟨w.heap.size, 0, none⟩ = some (.slice A n c) ∧ (((W.alloc (.cells #[.slice none 0 0, .slice none 0 0, .int .i64 0] 26)).alloc (.cells #[] 3)).drew).cell? ⟨w.heap.size, 2, none⟩ = some (.int .i64 M.bank)) := ⟨cell_alloc (cell_alloc a0), cell_alloc (cell_alloc a2)⟩
    have q0 : w.heap.size ≠ W.heap.size := by omega
    have q1 : w.heap.size ≠ W.heap.size + 1 := by omega
    go_region_held3 (fun w' => w'.cell? ⟨w.heap.size, 0, none⟩ = some (.slice A n c) ∧ w'.cell? ⟨w.heap.size, 2, none⟩ = some (.int .i64 M.bank))
      (first
        | (with_reducible exact ⟨t0, t2⟩)
        | (with_reducible exact ⟨cell_alloc t0, cell_alloc t2⟩)
        | (with_reducible exact ⟨cell_set3 t0 q1, cell_set3 t2 q1⟩)
        | (with_reducible exact ⟨cell_set3 t0 q0, cell_set3 t2 q0⟩)
        | (with_reducible exact K0.out)
        | (with_reducible exact K1.out)
        | (with_reducible exact K2.out)
        | (with_reducible exact K3.out)
        | (with_reducible exact K4.out)
        | go_keep)
      (first
        | ((with_reducible refine step_append_ints ?_ (.tmp 5) (.tmp 7) ?_ W.heap.size _ 0 [] ?_ E1.out A n c M.ram fa ?_ J1.out ?_ BR1.out.size ?_); rfl; rfl; rfl; rfl; omega; intro v1 w1 own1 gr1 at1; have b1 : Below W.heap.size W w1 := below_grown BR1.out gr1 BR1.out.size (fun b hb => by have h : some (W.heap.size) = some b := hb; injection h; omega); have own1' : w1.ownsRow W.heap.size 3 1 v1 n (iv M.ram) := by { simp only [Nat.zero_add, List.nil_append] at own1; exact own1 }; obtain ⟨A1, d1, fp1, rfl, hc1, _, hi1, hn1, ho1⟩ := own_ints own1'; have t0 : w1.cell? ⟨w.heap.size, 0, none⟩ = some (.slice A n c) := (X0.out.below b1).cell 0; have t2 : w1.cell? ⟨w.heap.size, 2, none⟩ = some (.int .i64 M.bank) := (X0.out.below b1).cell 2; have zz : w.heap.size < w1.heap.size := (X0.out.below b1).lt; have HC1 := Lib.hid hc1; have HI1 := Lib.hid hi1; have HN1 := Lib.hid hn1; have HB1 := Lib.hid b1; clear own1 gr1 at1 own1' hc1 hi1 hn1 ho1 b1)
        | ((with_reducible refine step_append_ints ?_ (.tmp 5) (.tmp 7) ?_ W.heap.size _ 0 [] ?_ E2.out A n c M.ram fa ?_ J2.out ?_ BR2.out.size ?_); rfl; rfl; rfl; rfl; omega; intro v1 w1 own1 gr1 at1; have b1 : Below W.heap.size W w1 := below_grown BR2.out gr1 BR2.out.size (fun b hb => by have h : some (W.heap.size) = some b := hb; injection h; omega); have own1' : w1.ownsRow W.heap.size 3 1 v1 n (iv M.ram) := by { simp only [Nat.zero_add, List.nil_append] at own1; exact own1 }; obtain ⟨A1, d1, fp1, rfl, hc1, _, hi1, hn1, ho1⟩ := own_ints own1'; have t0 : w1.cell? ⟨w.heap.size, 0, none⟩ = some (.slice A n c) := (X0.out.below b1).cell 0; have t2 : w1.cell? ⟨w.heap.size, 2, none⟩ = some (.int .i64 M.bank) := (X0.out.below b1).cell 2; have zz : w.heap.size < w1.heap.size := (X0.out.below b1).lt; have HC1 := Lib.hid hc1; have HI1 := Lib.hid hi1; have HN1 := Lib.hid hn1; have HB1 := Lib.hid b1; have xq : Box w1 (W.heap.size + 1) 26 [.slice none 0 0, .slice none 0 0, .int .i64 0] := XQ2.out.only (grown_only gr1 (S := [W.heap.size]) (fun b hb => by have h : some (W.heap.size) = some b := hb; injection h with h; simp [h])) (by simp); have u0 : w1.cell? ⟨W.heap.size + 1, 0, none⟩ = some (.slice none 0 0) := xq.cell 0; have u1 : w1.cell? ⟨W.heap.size + 1, 1, none⟩ = some (.slice none 0 0) := xq.cell 1; have u2 : w1.cell? ⟨W.heap.size + 1, 2, none⟩ = some (.int .i64 0) := xq.cell 2; have u3 := xq.frozen 0; have u4 := xq.frozen 1; have u5 := xq.frozen 2; have HQ := Lib.hid (fp_off (l := W.heap.size) (q := W.heap.size + 1) (s := W.heap.size + 2) ho1 (at1.elim (fun h => .inl h) (fun h => .inr (h.trans (by simp)))) (by omega) (by omega)); have XX := Lib.hid xq; clear xq; clear own1 gr1 at1 own1' hc1 hi1 hn1 ho1 b1)
        | ((with_reducible refine step_append_ints ?_ (.tmp 5) (.tmp 7) ?_ W.heap.size _ 0 [] ?_ E3.out A n c M.ram fa ?_ J3.out ?_ BR3.out.size ?_); rfl; rfl; rfl; rfl; omega; intro v1 w1 own1 gr1 at1; have b1 : Below W.heap.size W w1 := below_grown BR3.out gr1 BR3.out.size (fun b hb => by have h : some (W.heap.size + 1) = some b := hb; injection h; omega); have own1' : w1.ownsRow W.heap.size 3 1 v1 n (iv M.ram) := by { simp only [Nat.zero_add, List.nil_append] at own1; exact own1 }; obtain ⟨A1, d1, fp1, rfl, hc1, _, hi1, hn1, ho1⟩ := own_ints own1'; have t0 : w1.cell? ⟨w.heap.size, 0, none⟩ = some (.slice A n c) := (X0.out.below b1).cell 0; have t2 : w1.cell? ⟨w.heap.size, 2, none⟩ = some (.int .i64 M.bank) := (X0.out.below b1).cell 2; have zz : w.heap.size < w1.heap.size := (X0.out.below b1).lt; have HC1 := Lib.hid hc1; have HI1 := Lib.hid hi1; have HN1 := Lib.hid hn1; have HB1 := Lib.hid b1; have xq : Box w1 (W.heap.size) 26 [.slice none 0 0, .slice none 0 0, .int .i64 0] := XQ3.out.only (grown_only gr1 (S := [W.heap.size + 1]) (fun b hb => by have h : some (W.heap.size + 1) = some b := hb; injection h with h; simp [h])) (by simp); have u0 : w1.cell? ⟨W.heap.size, 0, none⟩ = some (.slice none 0 0) := xq.cell 0; have u1 : w1.cell? ⟨W.heap.size, 1, none⟩ = some (.slice none 0 0) := xq.cell 1; have u2 : w1.cell? ⟨W.heap.size, 2, none⟩ = some (.int .i64 0) := xq.cell 2; have u3 := xq.frozen 0; have u4 := xq.frozen 1; have u5 := xq.frozen 2; have HQ := Lib.hid (fp_off (l := W.heap.size + 1) (q := W.heap.size) (s := W.heap.size + 2) ho1 (at1.elim (fun h => .inl h) (fun h => .inr (h.trans (by simp)))) (by omega) (by omega)); have XX := Lib.hid xq; clear xq; clear own1 gr1 at1 own1' hc1 hi1 hn1 ho1 b1))
    · go_wp2
      go_meet
      case rel => exact ⟨_, _, A1, d1, fp1, rfl, copy_after HI1.out HN1.out HC1.out HB1.out B0.out zW X0.out X1.out⟩
    · go_wp2
      go_meet
      case rel => exact ⟨_, _, A1, d1, fp1, rfl, copy_before HI1.out HN1.out HQ.out HC1.out HB1.out B0.out zW X0.out X1.out (by omega) XX.out⟩
    · go_wp2
      go_meet
      case rel => exact ⟨_, _, A1, d1, fp1, rfl, copy_before HI1.out HN1.out HQ.out HC1.out HB1.out B0.out zW X0.out X1.out (by omega) XX.out⟩
  case rest =>
    obtain ⟨q, L, A1, d1, fp, rfl, hcp⟩ := hcut
    have CP := Lib.hid hcp
    clear hcp
    go_wp2_with fail
    go_loopw [4] (fun i wr => ∃ (j : Nat) (v : Value) (D : List Row), j ≤ k ∧ i = .int .i64 j ∧ CopyIn w wr q L A1 n d1 M fp [.slice A n c, .slice R k d, .int .i64 M.bank] j v D) (fun i _ => k - (intOf i).toNat)
    case atStart => exact ⟨0, _, [], Nat.zero_le _, rfl, CP.out⟩
    case round =>
      obtain ⟨j, v, D, hj, rfl, hcp⟩ := hrel
      have HC := Lib.hid hcp
      have lo := hcp.lo
      have tp := hcp.top
      clear hcp
      have x1 : wr.cell? ⟨w.heap.size, 1, none⟩ = some (.slice R k d) := HC.out.x0.cell 1
      by_cases hlt : j < k
      · obtain ⟨p, o, a, m, e, fr', rfl, hp, c1', _, i1', _⟩ := HG.out.row hlt
        have c1 := (HC.out.below.cell (p := ⟨p, o + j, none⟩) hp).trans c1'
        have i1 := i1'.keep (w' := wr) ⟨HC.out.below.size, fun b _ hl => HC.out.below.block b hl⟩
        have I1 := Lib.hid i1
        clear c1' i1'
        have hp2 : p < wr.heap.size := by have := HC.out.below.size; omega
        have hp3 : w.heap.size < wr.heap.size := HC.out.x0.lt
        have hp4 : q < wr.heap.size := HC.out.xq.lt
        have hm : m ≤ 1000000000 := by have := i1.1; have := HS.out j; omega
        have a1 : wr.cell? ⟨q, 1, none⟩ = some v := HC.out.xq.cell 1
        have a2 := HC.out.xq.frozen 1
        have l1 : (j : Int) < (k : Int) := by omega
        have l0 : (0 : Int) ≤ (j : Int) := by omega
        clear i1
        go_wp2_with fail
        have E1 : Hid ((wr.alloc (.cells #[] 3)).drew.ownsRow wr.heap.size 3 1 (.slice (some ⟨wr.heap.size, 0, none⟩) 0 0) 0 (iv [])) := (own_empty wr 3 wr.heap.size (Nat.le_refl _)).drew
        have J1 : Hid (Ints (wr.alloc (.cells #[] 3)).drew a m (M.rom.getD j []) fr') := I1.out.below (below1 wr _).drew
        have BR : Hid (Below wr.heap.size wr (wr.alloc (.cells #[] 3)).drew) := (below1 wr _).drew
        have zr : wr.heap.size ≤ (wr.alloc (.cells #[] 3)).drew.heap.size := BR.out.size
        go_region_law (first
            | (refine step_append_ints (by rfl) (.tmp 21) (.tmp 26) (by rfl) wr.heap.size _ 0 [] (by rfl) E1.out a m e (M.rom.getD j []) fr' (by rfl) J1.out (by omega) zr ?_; intro v1 w1 own1 gr1 _; have b1 : Below wr.heap.size wr w1 := below_grown BR.out gr1 zr (fun b hb => by have h : some wr.heap.size = some b := hb; injection h; omega); have own1' : w1.ownsRow wr.heap.size 3 1 v1 m (iv (M.rom.getD j [])) := by { simp only [Nat.zero_add, List.nil_append] at own1; exact own1 }; obtain ⟨A2, d2, fp2, rfl, hc1, _, hi1, hn1, _⟩ := own_ints own1'; have t1 : w1.cell? ⟨q, 1, none⟩ = some v := (HC.out.xq.below b1).cell 1; have t2 : q < w1.heap.size := (HC.out.xq.below b1).lt; have HC1 := Lib.hid hc1; have HI1 := Lib.hid hi1; have HN1 := Lib.hid hn1; have HB1 := Lib.hid b1; clear own1 gr1 own1' hc1 hi1 hn1 b1)
            | (refine step_append_lies _ (by rfl) (.tmp 20) (.tmp 28) 24 (by rfl) L 23 i0 _ 1 24 Tryd.underlying24 hi0 hz0 hz1 hz2 rfl (by omega) v j (D.map Row.val) (by rfl) (by exact own_keep (HC.out.grow.below HB1.out).own (below1 w1 _)) ⟨w1.heap.size, 0, none⟩ 1 1 [.slice A2 m d2] (by rfl) (by rfl) (World.news_of_block (cs := #[.slice A2 m d2]) (t := 23) (fr := (0, 0)) (heap_alloc_new w1 _)) (by simp [Value.oneCell']) (by omega) (by unfold maxLen; omega) (by omega) (by have := HB1.out.size; simp; omega) _ rfl ?_; intro g cap w2 own2 gr2 hat hlt2; have b2 : Below L wr w2 := ((HB1.out.mono tp).alloc (Nat.le_trans tp HB1.out.size) _).grown gr2 (by have := HB1.out.size; simp; omega) (fun b hb => (own_lt HC.out.grow.own b hb).1); have s1 : w2.cell? ⟨q, 1, none⟩ = some v := (Box.keep HC.out.xq b2 (by omega)).cell 1; have s2 := (Box.keep HC.out.xq b2 (by omega)).frozen 1; have GN := Lib.hid (HC.out.grow.next tp (by have := HL.out; omega) HB1.out HC1.out HI1.out HN1.out (below1 w1 _) own2 gr2 hat); have B2 := Lib.hid b2; clear own2 gr2 hat b2))
        all_goals go_wp2
        all_goals
          go_roundw
          case rel => exact copy_round hlt HC.out GN.out B2.out
          case measure => simp [intOf]; omega
      · obtain rfl : j = k := by omega
        obtain ⟨R', d', fr', rfl, hd', gG, nG⟩ := HC.out.grow.grid HL.out
        have G1 := Lib.hid gG
        have N1 := Lib.hid nG
        clear gG nG
        have N2 : Hid (New (w.heap.size + 1 + 1) wr (fp ++ fr')) := HC.out.new.append (N1.out.mono (by omega)) (fun x hx hy => by have := (N1.out.lt x hy).1; have := HC.out.lt x hx; omega)
        have a0 : wr.cell? ⟨q, 0, none⟩ = some (.slice A1 n d1) := HC.out.xq.cell 0
        have a1 : wr.cell? ⟨q, 1, none⟩ = some (.slice R' j d') := HC.out.xq.cell 1
        have a2 : wr.cell? ⟨q, 2, none⟩ = some (.int .i64 M.bank) := HC.out.xq.cell 2
        have e0 : wr.cell? ⟨w.heap.size + 1, 0, none⟩ = some (.slice none 0 0) := HC.out.x1.cell 0
        have e1 : wr.cell? ⟨w.heap.size + 1, 1, none⟩ = some (.slice none 0 0) := HC.out.x1.cell 1
        have e2 : wr.cell? ⟨w.heap.size + 1, 2, none⟩ = some (.int .i64 0) := HC.out.x1.cell 2
        have e3 := HC.out.x1.frozen 0
        have e4 := HC.out.x1.frozen 1
        have e5 := HC.out.x1.frozen 2
        go_wp2_with fail
        refine bodyPost_ret (v := .agg #[.slice A1 n d1, .slice R' j d', .int .i64 M.bank]) (by simp [results, Tryd.results46, go_sem, e0, e1, e2]) rfl ?_
        exact mem_handed HC.out.ram G1.out N2.out HC.out.cap hd' HC.out.below (by omega)
end Go.Proofs.YtcapfafglikcmaaDoor
