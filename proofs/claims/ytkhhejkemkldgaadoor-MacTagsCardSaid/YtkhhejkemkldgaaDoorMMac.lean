/- A Mac in memory: two Shas, one behind the other. -/
import Derived.Test.YtkhhejkemkldgaaDoorMBlk
import Derived.Test.YtkhhejkemkldgaaDoorMMath
set_option linter.unusedVariables false
set_option linter.unusedSimpArgs false
namespace Go.Proofs.YtkhhejkemkldgaaDoor
open Go.RowKit Go.Shelf
def shaOf (xs : List Int) : Array Value := shaC (adds xs (xs.length / 64)) (fun j => xs.getD (64 * (xs.length / 64) + j) 0) xs.length
theorem shaOf_size (xs : List Int) : (shaOf xs).size = 73 := shaC_size _ _ _
theorem shaOf_nil : shaOf [] = shaC [0, 0, 0, 0, 0, 0, 0, 0] (fun _ => 0) 0 := by
  unfold shaOf shaC
  rfl
/-- The Mac in block M: the one Sha has taken the bytes is, the other one os. -/
def MacAt (W : World) (M : Nat) (is os : List Int) : Prop := Bytes is ∧ Bytes os ∧ At 51 W M (shaOf is ++ shaOf os)
def locI (M : Nat) (os : List Int) : Loc := ⟨51, M, 0, #[], shaOf os, rfl⟩
def locO (M : Nat) (is : List Int) : Loc := ⟨51, M, 73, shaOf is, #[], shaOf_size is⟩
theorem inner_iff {W : World} {M : Nat} {is os : List Int} : ShaAtL W (locI M os) is ↔ Bytes is ∧ At 51 W M (shaOf is ++ shaOf os) := by
  unfold ShaAtL ShaInL Loc.cells locI
  simp only [Array.empty_append]
  exact Iff.rfl
theorem outer_iff {W : World} {M : Nat} {is os : List Int} : ShaAtL W (locO M is) os ↔ Bytes os ∧ At 51 W M (shaOf is ++ shaOf os) := by
  unfold ShaAtL ShaInL Loc.cells locO
  simp only [Array.append_empty]
  exact Iff.rfl
theorem MacAt.inner {W : World} {M : Nat} {is os : List Int} (h : MacAt W M is os) : ShaAtL W (locI M os) is := inner_iff.2 ⟨h.1, h.2.2⟩
theorem MacAt.outer {W : World} {M : Nat} {is os : List Int} (h : MacAt W M is os) : ShaAtL W (locO M is) os := outer_iff.2 ⟨h.2.1, h.2.2⟩
theorem MacAt.ofInner {W : World} {M : Nat} {is os : List Int} (h : ShaAtL W (locI M os) is) (ho : Bytes os) : MacAt W M is os := ⟨h.1, ho, (inner_iff.1 h).2⟩
theorem MacAt.ofOuter {W : World} {M : Nat} {is os : List Int} (h : ShaAtL W (locO M is) os) (hi : Bytes is) : MacAt W M is os := ⟨hi, h.1, (outer_iff.1 h).2⟩
theorem MacAt.lt {W : World} {M : Nat} {is os : List Int} (h : MacAt W M is os) : M < W.heap.size := At.lt h.2.2
theorem MacAt.below {W X : World} {M B : Nat} {is os : List Int} (h : MacAt W M is os) (hb : Below B W X) (hB : M < B) : MacAt X M is os := ⟨h.1, h.2.1, At.below h.2.2 hB hb⟩
theorem MacAt.grown {W X : World} {M N : Nat} {is os : List Int} (h : MacAt W M is os) (hg : W.grownBy X (some N)) (hne : M ≠ N) : MacAt X M is os := ⟨h.1, h.2.1, (hg.block M h.lt (fun e => hne (by injection e))).trans h.2.2⟩
theorem Tabs.grown {W X : World} {T : Nat} (h : Tabs W) (hg : W.grownBy X (some T)) (hT : 2 ≤ T) : Tabs X := ⟨h.1.of (hg.block 0 (by have := h.lt; omega) (fun e => by injection e; omega)), h.2.of (hg.block 1 h.lt (fun e => by injection e; omega))⟩
def mac0 : Array Value := shaC [0, 0, 0, 0, 0, 0, 0, 0] (fun _ => 0) 0 ++ shaC [0, 0, 0, 0, 0, 0, 0, 0] (fun _ => 0) 0
theorem zero_mac : (Tryd.prog.info? 51).map (fun i => (i.zero, i.size)) = some (some (.agg mac0), 146) := by kernel_rfl
theorem size_mac (is os : List Int) : (Tryd.prog.info? 51).map (·.size) = some (shaOf is ++ shaOf os).size := by rw [Array.size_append, shaOf_size, shaOf_size]; kernel_rfl
theorem macAt_zero {W : World} {M : Nat} (h : At 51 W M mac0) : MacAt W M [] [] := ⟨(fun x hx => by cases hx), (fun x hx => by cases hx), by rw [shaOf_nil]; exact h⟩
theorem made_any (M : Nat) (is os : List Int) (w : World) (hM : MacAt w M is os) :
    Calls Tryd.prog 40 #[.pointer (some ⟨M, 0, none⟩)] w fun e w' => e = .returned (.bool (decide (0 < os.length))) ∧ w = w' := by
  have h := lenL_any (locO M is) os w hM.outer
  have H := Lib.hid h
  clear hM h
  go_enter Tryd.func40, Tryd.ntmps40
  go_wp2_with fail
  refine H.out.mono ?_
  rintro e w' ⟨rfl, rfl⟩
  go_wp2
  go_ret
  exact ⟨by simp, rfl⟩
theorem made_nil (w : World) :
    Calls Tryd.prog 40 #[.pointer none] w fun e w' => e = .returned (.bool false) ∧ w = w' := by
  go_enter Tryd.func40, Tryd.ntmps40
  go_wp2
  go_ret
  exact ⟨rfl, rfl⟩
set_option maxRecDepth 100000 in
theorem mwrite_any (M : Nat) (is os ys : List Int) (Ab : Option Addr) (cb : Nat) (hM2 : 2 ≤ M) (ho : 0 < os.length) (hreach : is.length + ys.length ≤ 1000000000000) (hcb : ys.length ≤ cb) (w : World) (hT : Tabs w) (hM : MacAt w M is os)
    (hb8 : ∀ X, KeepsC M w X → Bys8 w.heap.size X (.slice Ab ys.length cb) ys) (hY : Bytes ys) :
    Calls Tryd.prog 17 #[.pointer (some ⟨M, 0, none⟩), .slice Ab ys.length cb] w fun e w' => e = .returned (.tuple #[]) ∧ MacAt w' M (is ++ ys) os ∧ w.grownBy w' (some M) := by
  have h1 := Lib.hid (made_any M is os w hM)
  have h2 := Lib.hid (writeL_any (locI M os) is ys Ab cb hM2 hreach hcb w hT hM.inner hb8 hY)
  have HO := Lib.hid hM.2.1
  have HL := Lib.hid (decide_eq_true ho)
  clear hM hb8 hT ho hreach
  go_enter Tryd.func17, Tryd.ntmps17
  go_wp2_with fail
  refine h1.out.mono ?_
  rintro e w' ⟨rfl, rfl⟩
  rw [HL.out]
  go_wp2_with fail
  refine h2.out.mono ?_
  rintro e w2 ⟨rfl, hX, hG⟩
  have HX := Lib.hid hX
  have HG := Lib.hid hG
  clear hX hG
  go_wp2
  refine bodyPost_end (v := .tuple #[]) (results_none rfl _ _ _) rfl ?_
  exact ⟨rfl, MacAt.ofInner HX.out HO.out, HG.out⟩
theorem mwrite_none (M : Nat) (is : List Int) (Ab : Option Addr) (n cb : Nat) (w : World) (hM : MacAt w M is []) :
    Calls Tryd.prog 17 #[.pointer (some ⟨M, 0, none⟩), .slice Ab n cb] w fun e w' => e = .returned (.tuple #[]) ∧ w = w' := by
  have h1 := Lib.hid (made_any M is [] w hM)
  clear hM
  go_enter Tryd.func17, Tryd.ntmps17
  go_wp2_with fail
  refine h1.out.mono ?_
  rintro e w' ⟨rfl, rfl⟩
  rw [show decide (0 < ([] : List Int).length) = false from rfl]
  go_wp2
  refine bodyPost_end (v := .tuple #[]) (results_none rfl _ _ _) rfl ?_
  exact ⟨rfl, rfl⟩
theorem mwrite_nil (Ab : Option Addr) (n cb : Nat) (w : World) :
    Calls Tryd.prog 17 #[.pointer none, .slice Ab n cb] w fun e w' => e = .returned (.tuple #[]) ∧ w = w' := by
  go_enter Tryd.func17, Tryd.ntmps17
  go_wp2_with fail
  refine (made_nil w).mono ?_
  rintro e w' ⟨rfl, rfl⟩
  go_wp2
  refine bodyPost_end (v := .tuple #[]) (results_none rfl _ _ _) rfl ?_
  exact ⟨rfl, rfl⟩
end Go.Proofs.YtkhhejkemkldgaaDoor
