/- Contracts of the program's functions on memory (chapter 2): a new memory. -/
import Derived.Test.YtgciaafapbaliaaMemC
namespace Go.Proofs.Ytgciaafapbaliaa
open Go.ChangeShapes Go.WideShapes Go.ChangeAt Go.RowKit

theorem make256 (W : World) : (Instr.makeSlice 23 (.int .i64 256) (.int .i64 256)).run Try.prog W = .ok (.slice (some ⟨W.heap.size, 0, none⟩) 256 256) (W.alloc (.cells (madeCells #[.int .i64 0] 256) 3)) :=
  Go.run_make_row' (P := Try.prog) 23 3 (.int .i64 0) 8 Try.underlying23 infoInt rfl .i64 .i64 256 (by omega) (by omega) W
theorem zeros_ints {w : World} {g : Nat} (h : w.rowIs g 3 256 (fun _ => .int .i64 0)) : Ints w (some ⟨g, 0, none⟩) 256 zeros [g] :=
  ints_of_row h (fun i hi => by rw [zeros_at i hi]) zeros_len (by omega)
theorem memZ_new {w w' : World} (b : Below w.heap.size w w') : MemNew memZ w (.returned (.agg #[.slice none 0 0, .slice none 0 0, .int .i64 0])) w' :=
  ⟨none, 0, 0, none, 0, 0, [], [], rfl, Nat.le_refl _, Nat.le_refl _, .nil _ _, .nil _ _, by simpa using New.nil _ _, b⟩
/-- A memory in new memory, handed on through the result's own block q. -/
theorem mem_handed {w w2 : World} {M : Mem} {A : Option Addr} {n c : Nat} {R : Option Addr} {k d : Nat} {fa fr : List Nat} {L q : Nat} {u v x : Value} (i : Ints w2 A n M.ram fa) (g : Grid w2 R k M.rom fr) (nw : New L w2 (fa ++ fr)) (hc : n ≤ c) (hd : k ≤ d) (b : Below w.heap.size w w2) (hq : w.heap.size ≤ q ∧ q < L) :
    MemNew M w (.returned (.agg #[.slice A n c, .slice R k d, .int .i64 M.bank])) (((w2.setCell ⟨q, 0, none⟩ u).setCell ⟨q, 1, none⟩ v).setCell ⟨q, 2, none⟩ x) := by
  have o : Only [q] w2 (((w2.setCell ⟨q, 0, none⟩ u).setCell ⟨q, 1, none⟩ v).setCell ⟨q, 2, none⟩ x) := (((Only.refl _ w2).setCell (.inl (by simp)) _).setCell (.inl (by simp)) _).setCell (.inl (by simp)) _
  have dd : ∀ y ∈ fa ++ fr, y ∉ [q] := fun y hy hs => by have := (nw.lt y hy).1; simp at hs; omega
  have s : Same (fa ++ fr) w2 (((w2.setCell ⟨q, 0, none⟩ u).setCell ⟨q, 1, none⟩ v).setCell ⟨q, 2, none⟩ x) := .of_only o dd
  exact ⟨A, n, c, R, k, d, fa, fr, rfl, hc, hd, i.keep (s.sub fun y hy => List.mem_append_left _ hy), g.keep (s.sub fun y hy => List.mem_append_right _ hy), (nw.mono (by omega)).keep s, ((b.setCell (by simp; omega) _).setCell (by simp; omega) _).setCell (by simp; omega) _⟩
theorem impl_new (R : Option Addr) (k d : Nat) (rs : List (List Int)) (fr : List Nat) (w : World) (hg : Grid w R k rs fr) (hk : k ≤ 1000000000) (hs : ∀ i, (rs.getD i []).length ≤ 1000000000) :
    Calls Try.prog 16 #[.slice R k d] w (MemNew (newM rs) w) := by
  have HG := Lib.hid hg
  have HS := Lib.hid hs
  clear hg hs
  have hmk := make256
  go_enter Try.func16, Try.ntmps16
  go_wp2_with fail
  have RZ : ∀ o1 o3, ((((w.alloc o1).alloc (.cells (madeCells #[.int .i64 0] 256) 3)).alloc o3)).rowIs (w.heap.size + 1) 3 256 (fun _ => .int .i64 0) := fun o1 o3 => by
    have := (World.rowIs_made (w.alloc o1) (.int .i64 0) 256 3).alloc o3
    rwa [show (w.alloc o1).heap.size = w.heap.size + 1 from by simp] at this
  by_cases hv : validB ⟨zeros, rs, 0⟩ = true
  · have HV := Lib.hid hv
    have HN := Lib.hid (show newM rs = ⟨zeros, rs, 0⟩ by simp [newM, hv])
    clear hv
    refine (impl_valid _ 256 256 R k d ⟨zeros, rs, 0⟩ _ fr _ (zeros_ints (RZ _ _)) (HG.out.below (below3 w _ _ _)) (by omega) hk HS.out).mono ?_
    rintro e w1 ⟨rfl, b1⟩
    rw [HV.out]
    have X0 : Hid (Box w1 w.heap.size _ [.slice none 0 0, .slice none 0 0, .int .i64 0]) := (((Box.new w _ _).alloc _).alloc _).below b1
    have X2 : Hid (Box w1 (w.heap.size + 1 + 1) _ [.slice (some ⟨w.heap.size + 1, 0, none⟩) 256 256, .slice R k d, .int .i64 0]) := (Box.new_at ((w.alloc _).alloc _) _ _ _ (by simp)).below b1
    have B1 : Hid (Below w.heap.size w w1) := (below3 w _ _ _).trans (b1.mono (by simp; omega))
    have I1 := Lib.hid ((zeros_ints (RZ _ _)).below b1)
    have G1 := Lib.hid (HG.out.below B1.out)
    clear b1 RZ hmk
    have a0 : w1.cell? ⟨w.heap.size + 1 + 1, 0, none⟩ = some (.slice (some ⟨w.heap.size + 1, 0, none⟩) 256 256) := X2.out.cell 0
    have a1 : w1.cell? ⟨w.heap.size + 1 + 1, 1, none⟩ = some (.slice R k d) := X2.out.cell 1
    have a2 : w1.cell? ⟨w.heap.size + 1 + 1, 2, none⟩ = some (.int .i64 0) := X2.out.cell 2
    go_wp2_with fail
    refine (clone_mem _ 256 256 R k d ⟨zeros, rs, 0⟩ _ fr _ I1.out G1.out (by omega) hk HS.out).mono ?_
    rintro e w2 ⟨A', n', c', R', k', d', fa', fr', rfl, hc', hd', i2, g2, n2, b2⟩
    have Y0 := Lib.hid (X0.out.below b2)
    have I2 := Lib.hid i2
    have G2 := Lib.hid g2
    have N2 := Lib.hid n2
    have z1 : w.heap.size < w1.heap.size := X0.out.lt
    have B2 : Hid (Below w.heap.size w w2) := B1.out.trans (b2.mono (by omega))
    clear i2 g2 n2 b2 a0 a1 a2
    have a0 : w2.cell? ⟨w.heap.size, 0, none⟩ = some (.slice none 0 0) := Y0.out.cell 0
    have a1 : w2.cell? ⟨w.heap.size, 1, none⟩ = some (.slice none 0 0) := Y0.out.cell 1
    have a2 : w2.cell? ⟨w.heap.size, 2, none⟩ = some (.int .i64 0) := Y0.out.cell 2
    have a3 := Y0.out.frozen 0
    have a4 := Y0.out.frozen 1
    have a5 := Y0.out.frozen 2
    go_wp2_with fail
    refine bodyPost_ret (v := .agg #[.slice A' n' c', .slice R' k' d', .int .i64 0]) (by simp [results, Try.results16, go_sem, a0, a1, a2]) rfl ?_
    rw [HN.out]
    exact mem_handed (M := ⟨zeros, rs, 0⟩) I2.out G2.out N2.out hc' hd' B2.out (by omega)
  · have HV := Lib.hid (show validB ⟨zeros, rs, 0⟩ = false by simpa using hv)
    have HN := Lib.hid (show newM rs = memZ by simp [newM, hv])
    clear hv
    refine (impl_valid _ 256 256 R k d ⟨zeros, rs, 0⟩ _ fr _ (zeros_ints (RZ _ _)) (HG.out.below (below3 w _ _ _)) (by omega) hk HS.out).mono ?_
    rintro e w1 ⟨rfl, b1⟩
    rw [HV.out]
    have X0 : Hid (Box w1 w.heap.size _ [.slice none 0 0, .slice none 0 0, .int .i64 0]) := (((Box.new w _ _).alloc _).alloc _).below b1
    have B1 : Hid (Below w.heap.size w w1) := (below3 w _ _ _).trans (b1.mono (by simp; omega))
    clear b1 RZ hmk
    have a0 : w1.cell? ⟨w.heap.size, 0, none⟩ = some (.slice none 0 0) := X0.out.cell 0
    have a1 : w1.cell? ⟨w.heap.size, 1, none⟩ = some (.slice none 0 0) := X0.out.cell 1
    have a2 : w1.cell? ⟨w.heap.size, 2, none⟩ = some (.int .i64 0) := X0.out.cell 2
    have a3 := X0.out.frozen 0
    have a4 := X0.out.frozen 1
    have a5 := X0.out.frozen 2
    go_wp2_with fail
    refine bodyPost_ret (v := .agg #[.slice none 0 0, .slice none 0 0, .int .i64 0]) (by simp [results, Try.results16, go_sem, a0, a1, a2]) rfl ?_
    rw [HN.out]
    exact memZ_new (((B1.out.setCell (by simp) _).setCell (by simp) _).setCell (by simp) _)
end Go.Proofs.Ytgciaafapbaliaa
