/- An argument that is a tariff. -/
import Derived.Test.YtbffmobjiiicoaaGreatDoorTTar
import Derived.OpenShut
import Derived.ChangeArms
import Derived.WideShapes
import Derived.ChangeOld
import Derived.Stop.Joined
import Derived.Deep.Slices
import Derived.Deep.SlicePairs
set_option linter.unusedVariables false
namespace Go.Proofs.YtbffmobjiiicoaaGreatDoor
open Go.ChangeShapes Go.WideShapes Go.RowKit
/-- No part is longer than its slice may be. -/
def TarCap (x : Ta) : Prop := (x.zl ≤ x.zc ∧ x.zc ≤ maxLen) ∧ (x.hl ≤ x.hc ∧ x.hc ≤ maxLen) ∧ (x.sl ≤ x.sc ∧ x.sc ≤ maxLen) ∧ (x.pl ≤ x.pc ∧ x.pc ≤ maxLen) ∧ (x.rl ≤ x.rc ∧ x.rc ≤ maxLen) ∧ x.l.length ≤ x.vc ∧ x.vc ≤ maxLen
theorem TarCap.len {x : Ta} (h : TarCap x) (hz : x.zl ≤ 1000) : TarLen x := by
  obtain ⟨_, h2, h3, h4, h5, h6⟩ := h
  exact ⟨hz, by omega, by omega, by omega, by omega, h6⟩
def zeroT : Ta := ⟨0, none, 0, 0, fun _ => noRl, none, 0, 0, none, 0, 0, fun _ => ⟨0, 0, 0, 0, 0, 0⟩, fun _ => ⟨0, 0, 0⟩, none, 0, 0, none, 0, 0, fun _ => ⟨none, 0, 0, fun _ => ⟨0, 0⟩⟩, fun _ => ⟨0, 0, 0⟩, none, 0, []⟩
section
variable {H : Type} {enc : TypeId × Value → H} {W : World} {base : Nat} {sp : Nat → Bool} {held : Bool} {fuel : Nat}
theorem zone_cells {a b : Value} {x : DataW H × List MemPlace} (h : DataW.trod enc Tryz.prog W base sp held fuel 24 [a, b] = some x) :
    ∃ (off : Int) (za : Option Addr) (zl zc : Nat) (R : Nat → Rl), a = .int .i64 off ∧ b = .slice za zl zc ∧ (zl ≤ zc ∧ zc ≤ maxLen) ∧ RulesAt W.heap.size W za zl R := by
  have k1 : Tryz.prog.cellsOf 3 = 1 := by kernel_rfl
  have ks : Tryz.prog.cellsOf 22 = 1 := by kernel_rfl
  obtain ⟨y0, y1, n, _, h0, h1⟩ := B9.trod_struct2' Tryz.underlying24 h
  simp only [k1, List.drop, List.take] at h0
  simp only [ks, List.drop, List.take] at h1
  obtain ⟨off, rfl, ho⟩ := int_cell h0
  obtain ⟨za, zl, zc, R, rfl, hl, hm, hR⟩ := open_rules h1
  exact ⟨off, za, zl, zc, R, rfl, rfl, ⟨hl, hm⟩, hR⟩
theorem cal_cells {a b : Value} {x : DataW H × List MemPlace} (h : DataW.trod enc Tryz.prog W base sp held fuel 28 [a, b] = some x) :
    ∃ (ha : Option Addr) (hl hc : Nat) (sa : Option Addr) (sl sc : Nat) (R : Nat → H8.Ho) (S : Nat → H8.Se), a = .slice ha hl hc ∧ b = .slice sa sl sc ∧ (hl ≤ hc ∧ hc ≤ maxLen) ∧ (sl ≤ sc ∧ sc ≤ maxLen) ∧ H8.HosAt W.heap.size W ha hl R ∧ H8.SeasAt W.heap.size W sa sl S := by
  have k1 : Tryz.prog.cellsOf 25 = 1 := by kernel_rfl
  have ks : Tryz.prog.cellsOf 26 = 1 := by kernel_rfl
  obtain ⟨y0, y1, n, _, h0, h1⟩ := B9.trod_struct2' Tryz.underlying28 h
  simp only [k1, List.drop, List.take] at h0
  simp only [ks, List.drop, List.take] at h1
  obtain ⟨ha, hl, hc, R, rfl, e1, e2, hR⟩ := H8.open_hos h0
  obtain ⟨sa, sl, sc, S, rfl, e3, e4, hS⟩ := H8.open_seas h1
  exact ⟨ha, hl, hc, sa, sl, sc, R, S, rfl, rfl, ⟨e1, e2⟩, ⟨e3, e4⟩, hR, hS⟩
theorem btab_cells {a b : Value} {x : DataW H × List MemPlace} (h : DataW.trod enc Tryz.prog W base sp held fuel 32 [a, b] = some x) :
    ∃ (pa : Option Addr) (pl pc : Nat) (ra : Option Addr) (rl rc : Nat) (P : Nat → B9.Pl) (R : Nat → B9.Ru), a = .slice pa pl pc ∧ b = .slice ra rl rc ∧ (pl ≤ pc ∧ pc ≤ maxLen) ∧ (rl ≤ rc ∧ rc ≤ maxLen) ∧ B9.PlsAt W.heap.size W pa pl P ∧ B9.RusAt W.heap.size W ra rl R := by
  have k1 : Tryz.prog.cellsOf 29 = 1 := by kernel_rfl
  have ks : Tryz.prog.cellsOf 30 = 1 := by kernel_rfl
  obtain ⟨y0, y1, n, _, h0, h1⟩ := B9.trod_struct2' Tryz.underlying32 h
  simp only [k1, List.drop, List.take] at h0
  simp only [ks, List.drop, List.take] at h1
  obtain ⟨pa, pl, pc, P, rfl, e1, hP⟩ := B9.open_pls h0
  obtain ⟨ra, rl, rc, R, rfl, e2, hR⟩ := B9.open_rus h1
  exact ⟨pa, pl, pc, ra, rl, rc, P, R, rfl, rfl, e1, e2, hP, hR⟩
theorem cells7 {cs : Array Value} (h : cs.size = 7) : ∃ a b c d e f g, cs = #[a, b, c, d, e, f, g] := by
  obtain ⟨l⟩ := cs
  match l, h with
  | [a, b, c, d, e, f, g], _ => exact ⟨a, b, c, d, e, f, g, rfl⟩
set_option maxRecDepth 100000 in
theorem open_tariff {base2 : Nat} {r : Reach} {v : Value} {d : DataW H} {p : List MemPlace} (hv : Value.okWide Tryz.prog W r base 35 v) (h : DataW.Trod enc Tryz.prog W base2 sp held 35 v d p) :
    ∃ x : Ta, v = tarV x ∧ TarAt W.heap.size W x ∧ TarCap x := by
  obtain ⟨cs, rfl, hsz⟩ := okWide_struct Tryz.underlying35 hv
  obtain ⟨c0, c1, c2, c3, c4, c5, c6, rfl⟩ := cells7 (hsz.trans (show Tryz.prog.cellsOf 35 = 7 by kernel_rfl))
  obtain ⟨fuel, hf⟩ := h
  have k1 : Tryz.prog.cellsOf 24 = 2 := by kernel_rfl
  have k2 : Tryz.prog.cellsOf 28 = 2 := by kernel_rfl
  have k3 : Tryz.prog.cellsOf 32 = 2 := by kernel_rfl
  have k4 : Tryz.prog.cellsOf 33 = 1 := by kernel_rfl
  obtain ⟨y0, y1, y2, y3, n, _, _, h0, h1, h2, h3⟩ := Go.Joins.trod_struct4 Tryz.underlying35 (show DataW.trod enc Tryz.prog W base2 sp held fuel 35 [c0, c1, c2, c3, c4, c5, c6] = some _ by simpa [Value.cells] using hf)
  simp only [k1, List.drop, List.take] at h0
  simp only [k2, List.drop, List.take] at h1
  simp only [k3, List.drop, List.take] at h2
  simp only [k4, List.drop, List.take] at h3
  obtain ⟨off, za, zl, zc, R, rfl, rfl, z1, z2⟩ := zone_cells h0
  obtain ⟨ha, hl, hc, sa, sl, sc, HH, S, rfl, rfl, e1, e2, e3, e4⟩ := cal_cells h1
  obtain ⟨pa, pl, pc, ra, rl, rc, P, Q, rfl, rfl, f1, f2, f3, f4⟩ := btab_cells h2
  obtain ⟨va, vc, l, rfl, g1, g2⟩ := V10.open_vers h3
  exact ⟨⟨off, za, zl, zc, R, ha, hl, hc, sa, sl, sc, HH, S, pa, pl, pc, ra, rl, rc, P, Q, va, vc, l⟩, rfl, ⟨z2, e3, e4, f3, f4, g2, Nat.le_refl _⟩, z1, e1, e2, f1, f2, g1⟩
end
end Go.Proofs.YtbffmobjiiicoaaGreatDoor
