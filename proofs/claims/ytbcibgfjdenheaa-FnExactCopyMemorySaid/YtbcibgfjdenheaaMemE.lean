/- The laws' own functions on memories: counted, copied, compared, written and looked through again. -/
import Derived.Test.YtbcibgfjdenheaaSliceK
import Derived.Test.YtbcibgfjdenheaaMemMath
namespace Go.Proofs.Ytbcibgfjdenheaa
open Go.ChangeShapes Go.WideShapes Go.ChangeAt Go.RowKit

/-- A memory in new memory of its own. -/
def MemNew (M : Mem) (w : World) (e : Ending) (w' : World) : Prop :=
  ∃ (A : Option Addr) (n c : Nat) (R : Option Addr) (k d : Nat) (fa fr : List Nat), e = .returned (.agg #[.slice A n c, .slice R k d, .int .i64 M.bank]) ∧ n ≤ c ∧ k ≤ d ∧ Ints w' A n M.ram fa ∧ Grid w' R k M.rom fr ∧ New w.heap.size w' (fa ++ fr) ∧ Below w.heap.size w w'
/-- What counting a memory leaves. -/
def SizedM (n k : Nat) (M : Mem) (left : Int) (w : World) (e : Ending) (w' : World) : Prop :=
  ∃ v : Int, e = .returned (.int .i64 v) ∧ Below w.heap.size w w' ∧ (v < 0 ∨ (0 ≤ v ∧ v = left - n - k - sumLen M.rom))
theorem sz_mem (A : Option Addr) (n c : Nat) (R : Option Addr) (k d : Nat) (M : Mem) (fr : List Nat) (left : Int) (w : World) (hg : Grid w R k M.rom fr) (hn : n ≤ 9223372036854775807) (hk : k ≤ 9223372036854775807) (hs : ∀ i, (M.rom.getD i []).length ≤ 9223372036854775807) (h0 : 0 ≤ left) (h1 : left ≤ 1000000000) :
    Calls Try.prog 18 #[.agg #[.slice A n c, .slice R k d, .int .i64 M.bank], .int .i64 left] w (SizedM n k M left w) := by
  have HG := Lib.hid (hg.below ((Below.refl _ w).alloc (Nat.le_refl _) (.cells #[.slice A n c, .slice R k d, .int .i64 M.bank] 39)))
  have HS := Lib.hid hs
  clear hg hs
  go_enter Try.func18, Try.ntmps18
  go_wp2_with fail
  by_cases h : (n : Int) ≤ left
  · refine (sz_ints_yes _ _ _ _ _ h h1).mono ?_; rintro e w' ⟨rfl, rfl⟩
    go_wp2_with fail
    refine (sz_rows _ _ _ _ _ _ _ HG.out hk HS.out (by omega) (by omega)).mono ?_; rintro e w' ⟨v, rfl, rfl, hv⟩
    have HV := Lib.hid hv
    clear hv
    by_cases hv : v < 0
    · go_wp2_with fail
      go_ret
      exact ⟨-1, rfl, (Below.refl _ w).alloc (Nat.le_refl _) _, .inl (by omega)⟩
    · go_wp2_with fail
      go_ret
      exact ⟨v, rfl, (Below.refl _ w).alloc (Nat.le_refl _) _, HV.out⟩
  · refine (sz_ints_no _ _ _ _ _ (by omega) (by omega) hn).mono ?_; rintro e w' ⟨rfl, rfl⟩
    go_wp2_with fail
    go_ret
    exact ⟨-1, rfl, (Below.refl _ w).alloc (Nat.le_refl _) _, .inl (by omega)⟩
theorem mem_new_end {w w1 w2 w3 : World} {M : Mem} {A : Option Addr} {n c : Nat} {R : Option Addr} {k d : Nat} {fp fq S : List Nat} {L : Nat} (i : Ints w1 A n M.ram fp) (n1 : New L w1 fp) (g : Grid w2 R k M.rom fq) (n2 : New w1.heap.size w2 fq) (o12 : Only S w1 w2) (o23 : Only S w2 w3)
    (hS : ∀ b ∈ S, b < L) (hL : w.heap.size ≤ L) (hL1 : L ≤ w1.heap.size) (b : Below w.heap.size w w3) (hc : n ≤ c) (hd : k ≤ d) : MemNew M w (.returned (.agg #[.slice A n c, .slice R k d, .int .i64 M.bank])) w3 := by
  have d1 : ∀ b ∈ fp, b ∉ S := fun x hx hs => by have := hS x hs; have := (n1.lt x hx).1; omega
  have d2 : ∀ b ∈ fq, b ∉ S := fun x hx hs => by have := hS x hs; have := (n2.lt x hx).1; omega
  have s1 : Same fp w1 w3 := .of_only (o12.trans o23) d1
  have s2 : Same fq w2 w3 := .of_only o23 d2
  refine ⟨A, n, c, R, k, d, fp, fq, rfl, hc, hd, i.keep s1, g.keep s2, ((n1.mono hL).keep s1).append ((n2.mono (Nat.le_trans hL hL1)).keep s2) (fun x hx hy => ?_), b⟩
  have := (n1.lt x hx).2
  have := (n2.lt x hy).1
  omega
/-- The rows were made first, then the working memory; then block q, before both, was written. -/
theorem mem_new_rows {w wr w1 : World} {M : Mem} {A : Option Addr} {n c : Nat} {R : Option Addr} {k d : Nat} {fp fq : List Nat} {q L : Nat} (g : Grid wr R k M.rom fq) (n2 : New L wr fq) (i : Ints w1 A n M.ram fp) (n1 : New wr.heap.size w1 fp) (b : Below wr.heap.size wr w1)
    (hq : q < L) (hc : n ≤ c) (hd : k ≤ d) (hw : w.heap.size ≤ L) (hL : L ≤ wr.heap.size) : ∀ w3, Only [q] w1 w3 → Below w.heap.size w w3 → MemNew M w (.returned (.agg #[.slice A n c, .slice R k d, .int .i64 M.bank])) w3 := by
  intro w3 o3 b3
  have d1 : ∀ x ∈ fp, x ∉ [q] := fun x hx hs => by have := (n1.lt x hx).1; simp at hs; omega
  have d2 : ∀ x ∈ fq, x ∉ [q] := fun x hx hs => by have := (n2.lt x hx).1; simp at hs; omega
  have s1 : Same fp w1 w3 := .of_only o3 d1
  have s2 : Same fq wr w3 := .of_only ((Only.of_below b).trans o3) d2
  refine ⟨A, n, c, R, k, d, fp, fq, rfl, hc, hd, i.keep s1, g.keep s2, ((n1.mono (by omega)).keep s1).append ((n2.mono hw).keep s2) (fun x hx hy => ?_), b3⟩
  have := (n1.lt x hx).1
  have := (n2.lt x hy).2
  omega
theorem to_mem (A : Option Addr) (n c : Nat) (R : Option Addr) (k d : Nat) (M : Mem) (fa fr : List Nat) (w : World) (hi : Ints w A n M.ram fa) (hg : Grid w R k M.rom fr) (hn : n ≤ 1000000000) (hk : k ≤ 1000000000) (hs : ∀ i, (M.rom.getD i []).length ≤ 1000000000) :
    Calls Try.prog 19 #[.agg #[.slice A n c, .slice R k d, .int .i64 M.bank]] w (MemNew M w) := by
  have HI := Lib.hid hi
  have HG := Lib.hid hg
  have HS := Lib.hid hs
  clear hi hg hs
  go_enter Try.func19, Try.ntmps19
  go_wp2_with fail
  refine (to_ints _ _ _ _ _ _ (HI.out.below ?_) hn).mono ?_
  · exact below3 w _ _ _
  rintro e w1 ⟨A', c', fp, rfl, hmc, i2, n2, b2⟩
  have X0 : Hid (Box w1 w.heap.size _ [.slice A n c, .slice R k d, .int .i64 M.bank]) := (((Box.new w _ _).alloc _).alloc _).below b2
  have X1 : Hid (Box w1 (w.heap.size + 1) _ [.slice none 0 0, .slice none 0 0, .int .i64 0]) := ((Box.new_at (w.alloc _) _ _ _ (by simp)).alloc _).below b2
  have X2 : Hid (Box w1 (w.heap.size + 1 + 1) _ [.slice none 0 0, .slice none 0 0, .int .i64 0]) := (Box.new_at ((w.alloc _).alloc _) _ _ _ (by simp)).below b2
  have N2' : New (w.heap.size + 1 + 1 + 1) w1 fp := by simpa using n2
  have N2 := Lib.hid N2'
  have I2 := Lib.hid i2
  have B2 : Hid (Below w.heap.size w w1) := (below3 w _ _ _).trans (b2.mono (by simp; omega))
  clear i2 n2 b2 N2'
  have a1 : w1.cell? ⟨w.heap.size, 1, none⟩ = some (.slice R k d) := X0.out.cell 1
  have a2 : w1.cell? ⟨w.heap.size + 1 + 1, 0, none⟩ = some (.slice none 0 0) := X2.out.cell 0
  have a3 := X2.out.frozen 0
  go_wp2_with fail
  refine (to_rows _ _ _ _ _ _ (HG.out.below ?_) hk HS.out).mono ?_
  · exact B2.out.setCell (by simp; omega) _
  rintro e w2 ⟨R', d', fq, rfl, hkd, g3, n3, b3⟩
  have Y0 := Lib.hid ((X0.out.far (b' := w.heap.size + 1 + 1) (i := 0) (by omega) (.slice A' n c')).below b3)
  have Y1 := Lib.hid ((X1.out.far (b' := w.heap.size + 1 + 1) (i := 0) (by omega) (.slice A' n c')).below b3)
  have Y2 := Lib.hid ((X2.out.set 0 (.slice A' n c')).below b3)
  have N3' : New w1.heap.size w2 fq := by simpa using n3
  have N3 := Lib.hid N3'
  have z1 : w.heap.size + 1 + 1 < w1.heap.size := X2.out.lt
  have O3 : Hid (Only [w.heap.size + 1 + 1] w1 w2) := ((Only.refl _ w1).setCell (.inl (by simp)) _).trans (.of_below b3)
  have B3 : Hid (Below w.heap.size w w2) := (B2.out.setCell (by simp; omega) _).trans (b3.mono (by have := B2.out.size; simpa using this))
  have G3 := Lib.hid g3
  clear g3 n3 b3 N3' a1 a2 a3
  have a1 : w2.cell? ⟨w.heap.size, 2, none⟩ = some (.int .i64 M.bank) := Y0.out.cell 2
  have a2 : w2.cell? ⟨w.heap.size + 1 + 1, 0, none⟩ = some (.slice A' n c') := Y2.out.cell 0
  have a3 : w2.cell? ⟨w.heap.size + 1 + 1, 1, none⟩ = some (.slice none 0 0) := Y2.out.cell 1
  have a4 : w2.cell? ⟨w.heap.size + 1 + 1, 2, none⟩ = some (.int .i64 0) := Y2.out.cell 2
  have a5 := Y2.out.frozen 1
  have a6 := Y2.out.frozen 2
  have a7 : w2.cell? ⟨w.heap.size + 1, 0, none⟩ = some (.slice none 0 0) := Y1.out.cell 0
  have a8 : w2.cell? ⟨w.heap.size + 1, 1, none⟩ = some (.slice none 0 0) := Y1.out.cell 1
  have a9 : w2.cell? ⟨w.heap.size + 1, 2, none⟩ = some (.int .i64 0) := Y1.out.cell 2
  have aa := Y1.out.frozen 0
  have ab := Y1.out.frozen 1
  have ac := Y1.out.frozen 2
  go_wp2_with fail
  refine bodyPost_ret (v := .agg #[.slice A' n c', .slice R' k d', .int .i64 M.bank]) (by simp [results, Try.results19, go_sem, a7, a8, a9]) rfl ?_
  refine mem_new_end (S := [w.heap.size + 1, w.heap.size + 1 + 1]) I2.out N2.out G3.out N3.out (O3.out.mono (by simp)) ?_ (by simp) (by omega) (by omega) ?_ hmc hkd
  · exact (((((Only.refl _ w2).setCell (.inl (by simp)) _).setCell (.inl (by simp)) _).setCell (.inl (by simp)) _).setCell (.inl (by simp)) _).setCell (.inl (by simp)) _
  · exact ((((B3.out.setCell (by simp; omega) _).setCell (by simp; omega) _).setCell (by simp) _).setCell (by simp) _).setCell (by simp) _
theorem eq_mem (A A' : Option Addr) (n c c' : Nat) (R R' : Option Addr) (k d d' : Nat) (M : Mem) (fa fr fa' fr' : List Nat) (w : World) (hi : Ints w A n M.ram fa) (hi' : Ints w A' n M.ram fa') (hg : Grid w R k M.rom fr) (hg' : Grid w R' k M.rom fr') (hn : n ≤ 1000000000) (hk : k ≤ 1000000000) (hs : ∀ i, (M.rom.getD i []).length ≤ 1000000000) :
    Calls Try.prog 20 #[.agg #[.slice A n c, .slice R k d, .int .i64 M.bank], .agg #[.slice A' n c', .slice R' k d', .int .i64 M.bank]] w fun e w' => e = .returned (.bool true) ∧ Below w.heap.size w w' := by
  have HI := Lib.hid hi
  have HG := Lib.hid hg
  have HI' := Lib.hid hi'
  have HG' := Lib.hid hg'
  have HS := Lib.hid hs
  clear hi hg hs hi' hg'
  go_enter Try.func20, Try.ntmps20
  go_wp2_with fail
  refine (eq_ints _ _ _ _ _ _ _ _ _ (HI.out.below (below2 w _ _)) (HI'.out.below (below2 w _ _)) hn).mono ?_; rintro e w' ⟨rfl, m, rfl⟩
  go_wp2_with fail
  refine (eq_rows _ _ _ _ _ _ _ _ _ (HG.out.below (below_drewN (below2 w _ _) _)) (HG'.out.below (below_drewN (below2 w _ _) _)) hk HS.out).mono ?_; rintro e w' ⟨rfl, m', rfl⟩
  go_wp2_with fail
  go_ret
  exact ⟨rfl, below_drewN (below2 w _ _) _⟩
theorem same_mem (A A' : Option Addr) (n c c' : Nat) (R R' : Option Addr) (k d d' : Nat) (M : Mem) (fa fr fa' fr' : List Nat) (w : World) (hi : Ints w A n M.ram fa) (hi' : Ints w A' n M.ram fa') (hg : Grid w R k M.rom fr) (hg' : Grid w R' k M.rom fr') (hn : n ≤ 1000000000) (hk : k ≤ 1000000000) (hs : ∀ i, (M.rom.getD i []).length ≤ 1000000000) :
    Calls Try.prog 9 #[.agg #[.slice A n c, .slice R k d, .int .i64 M.bank], .agg #[.slice A' n c', .slice R' k d', .int .i64 M.bank]] w fun e w' => e = .returned (.bool true) ∧ Below w.heap.size w w' := by
  have HI := Lib.hid hi
  have HG := Lib.hid hg
  have HI' := Lib.hid hi'
  have HG' := Lib.hid hg'
  have HS := Lib.hid hs
  clear hi hg hs hi' hg'
  go_enter Try.func9, Try.ntmps9
  go_wp2_with fail
  refine (same_ints _ _ _ _ _ _ _ _ _ (HI.out.below (below2 w _ _)) (HI'.out.below (below2 w _ _)) hn).mono ?_; rintro e w' ⟨rfl, m, rfl⟩
  go_wp2_with fail
  refine (same_rows _ _ _ _ _ _ _ _ _ (HG.out.below (below_drewN (below2 w _ _) _)) (HG'.out.below (below_drewN (below2 w _ _) _)) hk HS.out).mono ?_; rintro e w' ⟨rfl, m', rfl⟩
  go_wp2_with fail
  go_ret
  exact ⟨rfl, below_drewN (below2 w _ _) _⟩
/-- What writing numbers in order into a memory leaves. -/
def MarkedM (A : Option Addr) (n : Nat) (R : Option Addr) (k : Nat) (q : Int) (M : Mem) (fa fr : List Nat) (w : World) (e : Ending) (w' : World) : Prop :=
  ∃ rs' : List (List Int), e = .returned (.int .i64 (q + n + sumLen M.rom)) ∧ Only (fa ++ fr) w w' ∧ Ints w' A n (upFrom q n) fa ∧ Grid w' R k rs' fr ∧ Marked (q + n) rs' ∧ rs'.map List.length = M.rom.map List.length
theorem mark_mem (A : Option Addr) (n c : Nat) (R : Option Addr) (k d : Nat) (b q : Int) (M : Mem) (fa fr : List Nat) (L : Nat) (w : World) (hi : Ints w A n M.ram fa) (hg : Grid w R k M.rom fr) (hw : New L w (fa ++ fr)) (hn : n ≤ 1000000000) (hk : k ≤ 1000000000) (hs : sumLen M.rom ≤ 1000000000) (q0 : 0 ≤ q) (q1 : q ≤ 1000000000) :
    Calls Try.prog 21 #[.agg #[.slice A n c, .slice R k d, .int .i64 b], .int .i64 q] w (MarkedM A n R k q M fa fr w) := by
  have HI := Lib.hid hi
  have HG := Lib.hid hg
  have HW := Lib.hid hw
  have HD := Lib.hid (List.nodup_append.1 hw.once)
  clear hi hg hw
  go_enter Try.func21, Try.ntmps21
  go_wp2_with fail
  refine (mark_ints _ _ _ _ _ _ _ (HI.out.below (below1 w _)) (fun x hx => ?_) hn q0 (by omega)).mono ?_
  · exact (HW.out.keep (.of_below (below1 w _))).free x (List.mem_append_left _ hx)
  rintro e w1 ⟨rfl, o1, i1, f1⟩
  have X1 : Hid (Box w1 w.heap.size _ [.slice A n c, .slice R k d, .int .i64 b]) := (Box.new w _ _).only o1 (fun hx => by have := HI.out.lt _ hx; omega)
  have O1 : Hid (Only fa w w1) := ((Only.refl _ w).alloc _).trans o1
  have I1 := Lib.hid i1
  have dis : ∀ x ∈ fr, x ∉ fa := fun x hx hy => HD.out.2.2 x hy x hx rfl
  have G1 := Lib.hid (HG.out.keep (.of_only O1.out dis))
  have F1 : Hid (∀ x ∈ fr, ∀ o, w1.frozen? ⟨x, o, none⟩ = false) := fun x hx o => (World.frozen?_of_block (a := ⟨x, o, none⟩) (O1.out.block x (HG.out.lt x hx) (dis x hx))).trans (HW.out.free x (List.mem_append_right _ hx) o)
  have DS := Lib.hid dis
  clear o1 i1 f1 dis
  have a1 : w1.cell? ⟨w.heap.size, 1, none⟩ = some (.slice R k d) := X1.out.cell 1
  go_wp2_with fail
  refine (mark_rows _ _ _ _ _ _ _ G1.out HD.out.2.1 F1.out hk hs (by omega) (by omega)).mono ?_
  rintro e w2 ⟨rs', rfl, o2, g2, m2, l2, f2⟩
  have O2 := Lib.hid o2
  have G2 := Lib.hid g2
  have M2 := Lib.hid m2
  have L2 := Lib.hid l2
  clear o2 g2 m2 l2 f2
  go_wp2_with fail
  go_ret
  exact ⟨rs', rfl, (O1.out.mono (fun x hx => List.mem_append_left _ hx)).trans (O2.out.mono (fun x hx => List.mem_append_right _ hx)), I1.out.keep (.of_only O2.out (fun x hx hy => DS.out x hy hx)), G2.out, M2.out, L2.out⟩
theorem held_mem (A : Option Addr) (n c : Nat) (R : Option Addr) (k d : Nat) (b q : Int) (rs : List (List Int)) (fa fr : List Nat) (w : World) (hi : Ints w A n (upFrom q n) fa) (hg : Grid w R k rs fr) (hm : Marked (q + n) rs) (hn : n ≤ 1000000000) (hk : k ≤ 1000000000) (hs : sumLen rs ≤ 1000000000) (q0 : 0 ≤ q) (q1 : q ≤ 1000000000) :
    Calls Try.prog 22 #[.agg #[.slice A n c, .slice R k d, .int .i64 b], .int .i64 q] w fun e w' => e = .returned (.int .i64 (q + n + sumLen rs)) ∧ Below w.heap.size w w' := by
  have HI := Lib.hid hi
  have HG := Lib.hid hg
  have HM := Lib.hid hm
  clear hi hg hm
  go_enter Try.func22, Try.ntmps22
  go_wp2_with fail
  refine (held_ints _ _ _ _ _ _ (HI.out.below (below1 w _)) hn q0 (by omega)).mono ?_; rintro e w' ⟨rfl, rfl⟩
  go_wp2_with fail
  refine (held_rows _ _ _ _ _ _ _ (HG.out.below (below1 w _)) HM.out hk hs (by omega) (by omega)).mono ?_; rintro e w' ⟨rfl, rfl⟩
  go_wp2_with fail
  go_ret
  exact ⟨rfl, below1 w _⟩
end Go.Proofs.Ytbcibgfjdenheaa
