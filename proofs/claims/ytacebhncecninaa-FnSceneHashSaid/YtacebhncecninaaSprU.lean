/- What the laws of chapter 11 draw. -/
import Derived.Test.YtacebhncecninaaSprR
import Derived.Test.YtacebhncecninaaGC
namespace Go.Proofs.Ytacebhncecninaa
open Go.ChangeShapes Go.WideShapes Go.ChangeAt Go.RowKit
set_option linter.unusedVariables false

/-- Sprites and tiles as a law got them. -/
structure Got (w w' : World) (A : Option Addr) (n c : Nat) (S : List Spr) (fs : List Nat) (T : Option Addr) (m d : Nat) (zs : List Int) (ft : List Nat) : Prop where
  n1 : n ≤ 100
  nc : n ≤ c
  m1 : 1 ≤ m
  m4 : m ≤ 4
  md : m ≤ d
  hs : Sprs w' A n S fs
  ht : Ints w' T (64 * m) zs ft
  below : Below w.heap.size w w'
def SprGot (w : World) (e : Ending) (w' : World) : Prop := ∃ A n c S fs T m d zs ft, e = .returned (.tuple #[.slice A n c, .slice T m d]) ∧ Got w w' A n c S fs T m d zs ft
def SprGot1 (w : World) (e : Ending) (w' : World) : Prop := ∃ A n c S fs T m d zs ft, ∃ y : Int, e = .returned (.tuple #[.slice A n c, .slice T m d, .int .i64 y]) ∧ (-1 ≤ y ∧ y ≤ 16) ∧ Got w w' A n c S fs T m d zs ft
def SprGot2 (w : World) (e : Ending) (w' : World) : Prop := ∃ A n c S fs T m d zs ft, ∃ x y : Int, e = .returned (.tuple #[.slice A n c, .slice T m d, .int .i64 x, .int .i64 y]) ∧ Got w w' A n c S fs T m d zs ft
/-- Some number. -/
def TNum : Value → World → Prop := fun v _ => ∃ z : Int, v = .int .i64 z
theorem stab_tnum {S : List Nat} {D : World → Prop} : Stab (Rel S D) TNum := fun _ _ _ _ h => h
set_option maxRecDepth 100000 in
set_option maxHeartbeats 4000000 in
theorem xy_any14 (q m : Nat) (w : World) (h : Rd w q m) (hm : m ≤ 90000) : Calls Try.prog 72 #[.pointer (some ⟨q, 0, none⟩), .int .i64 14] w (fun e w' => ∃ x y : Int, e = .returned (.tuple #[.int .i64 x, .int .i64 y]) ∧ (-1 ≤ x ∧ x ≤ 32) ∧ (-1 ≤ y ∧ y ≤ 32) ∧ Only [q] w w' ∧ Rd w' q (m + 20)) := by
  have hq := h.lt
  have H := Lib.hid h
  clear h
  go_enter Try.func72, Try.ntmps72
  go_wp2_with fail
  refine (odd_any q m 14 _ H.out (by omega) (by omega) (by omega)).mono ?_
  rintro e w1 ⟨bb, rfl, s1, r1⟩
  have O1 := Lib.hid s1.only
  have R1 := Lib.hid r1
  have zq1 : q < w1.heap.size := R1.out.lt
  clear s1 r1 H
  have hqS : q ∈ [q] := by simp
  have hS1 : ∀ b ∈ [q], b < w1.heap.size := by simp; omega
  have hJ : Kept q (fun _ => True) := fun _ _ _ _ => trivial
  cases bb
  · go_wp2_with fail
    refine (pick_any q _ 32 _ R1.out (by omega) (by omega) (by omega)).mono ?_
    rintro e w2 ⟨x, x0, x1, rfl, s2, r2⟩
    have O2 := Lib.hid (O1.out.trans s2.only)
    have R2 := Lib.hid r2
    clear s2 r2 O1 R1
    go_wp2_with fail
    refine (pick_any q _ 16 _ R2.out (by omega) (by omega) (by omega)).mono ?_
    rintro e w3 ⟨y, y0, y1, rfl, s3, r3⟩
    have O3 := Lib.hid (O2.out.trans s3.only)
    have R3 := Lib.hid r3
    clear s3 r3 O2 R2
    go_wp2_with fail
    refine bodyPost_ret (v := .tuple #[.int .i64 x, .int .i64 y]) (by simp [results, Try.results72, go_sem]) rfl ?_
    exact ⟨x, y, rfl, by omega, by omega, O3.out, R3.out.mono (by omega)⟩
  · go_upto_region 2 with (fail)
    refine wp_region_typed (Cls [q] q (m + 1) w1 fun _ => True) (Rel [q] fun _ => True)
      (Ty [TL [q] 3 (-1) 32, TV (.pointer (some ⟨q, 0, none⟩)), TI 0 2, TP [q] (-1) 32, TI (-1) 32, TL [q] 3 (-1) 32, TV (.pointer (some ⟨q, 0, none⟩)), TI 0 2, TP [q] (-1) 32, TI (-1) 32, TI (-1) 32, TI (-1) 32])
      (by kernel_rfl) (by kernel_rfl) (stab_ty _ ⟨stab_tl _ _ _, stab_tv _, stab_ti _ _, stab_tp _ _, stab_ti _ _, stab_tl _ _ _, stab_tv _, stab_ti _ _, stab_tp _ _, stab_ti _ _, stab_ti _ _, stab_ti _ _, trivial⟩)
      ⟨(Only.refl _ w1).trans (.of_below (Below.refl _ _).drew), R1.out.stay (Below.refl _ _).drew, trivial⟩ ?_ ?_
    · refine ⟨?_, ?_, ?_, ?_, ?_, ?_, ?_, ?_, ?_, ?_, ?_, ?_, trivial⟩
      · refine ob_build rfl 3 (-1) 32 hqS hJ hJ hS1 (fun ρ wx hc hx hp => ?_) (fun _ _ h => h)
        refine ⟨#[.int .i64 (-1), .int .i64 32, .int .i64 3], ?_, ?_⟩
        · unfold execOp
          simp only [List.map_toArray, List.map_cons, List.map_nil, hc]
          clear hx hp hc
          go_simp
        · intro j hj
          have h : j = 0 ∨ j = 1 ∨ j = 2 := by omega
          rcases h with rfl | rfl | rfl <;> exact ⟨_, rfl, by omega, by omega⟩
      · exact ob_move rfl (.tmp 0) (.inl rfl) hqS hJ hJ fun ρ wx _ hx _ => hx 0 rfl
      · exact ob_pick rfl (.tmp 10) 3 _ rfl hqS hJ hJ (by simp; omega) (by omega) (by omega) (fun ρ wx hp => hp.1 rfl) (fun _ _ h => h)
      · exact ob_index rfl (.tmp 9) (.tmp 11) 3 (-1) 32 rfl hqS hJ hJ (fun ρ wx hp => ⟨hp.1 rfl, hp.2.1 rfl⟩) (fun _ _ h => h)
      · exact ob_load rfl (.tmp 12) (-1) 32 rfl hqS hJ hJ (fun ρ wx hp => hp.1 rfl) (fun _ _ h => h)
      · refine ob_build rfl 3 (-1) 32 hqS hJ hJ hS1 (fun ρ wx hc hx hp => ?_) (fun _ _ h => h)
        refine ⟨#[.int .i64 (-1), .int .i64 16, .int .i64 3], ?_, ?_⟩
        · unfold execOp
          simp only [List.map_toArray, List.map_cons, List.map_nil, hc]
          clear hx hp hc
          go_simp
        · intro j hj
          have h : j = 0 ∨ j = 1 ∨ j = 2 := by omega
          rcases h with rfl | rfl | rfl <;> exact ⟨_, rfl, by omega, by omega⟩
      · exact ob_move rfl (.tmp 0) (.inl rfl) hqS hJ hJ fun ρ wx _ hx _ => hx 0 rfl
      · exact ob_pick rfl (.tmp 15) 3 _ rfl hqS hJ hJ (by simp; omega) (by omega) (by omega) (fun ρ wx hp => hp.1 rfl) (fun _ _ h => h)
      · exact ob_index rfl (.tmp 14) (.tmp 16) 3 (-1) 32 rfl hqS hJ hJ (fun ρ wx hp => ⟨hp.1 rfl, hp.2.1 rfl⟩) (fun _ _ h => h)
      · exact ob_load rfl (.tmp 17) (-1) 32 rfl hqS hJ hJ (fun ρ wx hp => hp.1 rfl) (fun _ _ h => h)
      · exact ob_some rfl hqS hJ hJ fun ρ kk wx hI hc hx hp => by
          obtain ⟨z, hz, z0, z1⟩ : TI (-1) 32 (ρ (.tmp 13)) wx := hp.1 rfl
          refine ⟨.int .i64 z, ?_, z, rfl, z0, z1⟩
          unfold execOp
          simp only [hz]
          clear hx hp hc hI hz
          go_simp
      · exact ob_some rfl hqS hJ hJ fun ρ kk wx hI hc hx hp => by
          obtain ⟨z, hz, z0, z1⟩ : TI (-1) 32 (ρ (.tmp 18)) wx := hp.1 rfl
          refine ⟨.int .i64 z, ?_, z, rfl, z0, z1⟩
          unfold execOp
          simp only [hz]
          clear hx hp hc hI hz
          go_simp
    · intro vs wx hI hF
      obtain ⟨-, -, -, -, -, -, -, -, -, -, ⟨x, h10, x0, x1⟩, ⟨y, h11, y0, y1⟩, -⟩ := hF
      have O5 := Lib.hid (O1.out.trans hI.only)
      have R5 := Lib.hid hI.rd
      replace h10 : vs 10 = .int .i64 x := h10
      replace h11 : vs 11 = .int .i64 y := h11
      simp only [putAll, Act.put, List.setIfInBounds_toArray, List.set_cons_zero, List.set_cons_succ, h10, h11]
      clear hI h10 h11
      go_wp2_with fail
      refine bodyPost_ret (v := .tuple #[.int .i64 x, .int .i64 y]) (by simp [results, Try.results72, go_sem]) rfl ?_
      exact ⟨x, y, rfl, by omega, by omega, O5.out, R5.out.mono (by simp)⟩
end Go.Proofs.Ytacebhncecninaa
