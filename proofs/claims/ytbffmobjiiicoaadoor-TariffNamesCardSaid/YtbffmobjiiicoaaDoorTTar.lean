/- Tariffs, as numbers and in memory. -/
import Derived.Test.YtbffmobjiiicoaaDoorJY2
import Derived.Test.YtbffmobjiiicoaaDoorJZ2
import Derived.Test.YtbffmobjiiicoaaDoorJH4
import Derived.Test.YtbffmobjiiicoaaDoorJH5
import Derived.Test.YtbffmobjiiicoaaDoorJB2
import Derived.Test.YtbffmobjiiicoaaDoorJV1
set_option linter.unusedVariables false
namespace Go.Proofs.YtbffmobjiiicoaaDoor
open Go.ChangeShapes Go.WideShapes Go.RowKit
structure Ta where
  off : Int
  za : Option Addr
  zl : Nat
  zc : Nat
  R : Nat → Rl
  ha : Option Addr
  hl : Nat
  hc : Nat
  sa : Option Addr
  sl : Nat
  sc : Nat
  H : Nat → H8.Ho
  S : Nat → H8.Se
  pa : Option Addr
  pl : Nat
  pc : Nat
  ra : Option Addr
  rl : Nat
  rc : Nat
  P : Nat → B9.Pl
  Q : Nat → B9.Ru
  va : Option Addr
  vc : Nat
  l : List V10.Ve
abbrev tarC (x : Ta) : Array Value := #[.int .i64 x.off, .slice x.za x.zl x.zc, .slice x.ha x.hl x.hc, .slice x.sa x.sl x.sc, .slice x.pa x.pl x.pc, .slice x.ra x.rl x.rc, .slice x.va x.l.length x.vc]
abbrev tarV (x : Ta) : Value := .agg (tarC x)
/-- The parts of a tariff lie below n. -/
structure TarAt (n : Nat) (W : World) (x : Ta) : Prop where
  z : RulesAt n W x.za x.zl x.R
  h : H8.HosAt n W x.ha x.hl x.H
  s : H8.SeasAt n W x.sa x.sl x.S
  p : B9.PlsAt n W x.pa x.pl x.P
  q : B9.RusAt n W x.ra x.rl x.Q
  v : V10.VesAt n W x.va x.l
  ns : n ≤ W.heap.size
/-- No part is longer than a slice may be; the zone has at most 1000 rules. -/
structure TarLen (x : Ta) : Prop where
  z : x.zl ≤ 1000
  h : x.hl ≤ maxLen
  s : x.sl ≤ maxLen
  p : x.pl ≤ maxLen
  q : x.rl ≤ maxLen
  v : x.l.length ≤ x.vc ∧ x.vc ≤ maxLen
theorem TarAt.next {n : Nat} {W X : World} {x : Ta} (h : TarAt n W x) (hB : Below n W X) : TarAt n X x :=
  ⟨fun i hi => (by
      obtain ⟨b, o, e, hb, k⟩ := h.z i hi
      have hx : ∀ k, X.cell? ⟨b, k, none⟩ = W.cell? ⟨b, k, none⟩ := fun k => hB.cell (p := ⟨b, k, none⟩) hb
      exact ⟨b, o, e, hb, by unfold RlAt at k ⊢; simpa only [hx] using k⟩),
    fun i hi => (by
      obtain ⟨b, o, e, hb, k⟩ := h.h i hi
      have hx : ∀ k, X.cell? ⟨b, k, none⟩ = W.cell? ⟨b, k, none⟩ := fun k => hB.cell (p := ⟨b, k, none⟩) hb
      exact ⟨b, o, e, hb, by unfold H8.HoAt at k ⊢; simpa only [hx] using k⟩),
    fun i hi => (by
      obtain ⟨b, o, e, hb, k⟩ := h.s i hi
      have hx : ∀ k, X.cell? ⟨b, k, none⟩ = W.cell? ⟨b, k, none⟩ := fun k => hB.cell (p := ⟨b, k, none⟩) hb
      exact ⟨b, o, e, hb, by unfold H8.SeAt at k ⊢; simpa only [hx] using k⟩),
    h.p.next hB (Nat.le_refl _) h.ns, h.q.next hB (Nat.le_refl _) h.ns, h.v.next hB (Nat.le_refl _), Nat.le_trans h.ns hB.size⟩
theorem TarAt.mono {n m : Nat} {W : World} {x : Ta} (h : TarAt n W x) (hm : n ≤ m) (hs : m ≤ W.heap.size) : TarAt m W x :=
  ⟨h.z.mono hm, h.h.mono hm, h.s.mono hm, h.p.mono hm, h.q.mono hm, h.v.mono hm, hs⟩
theorem TarAt.up {n : Nat} {W X : World} {x : Ta} (h : TarAt n W x) (hB : Below n W X) : TarAt X.heap.size X x := (h.next hB).mono (Nat.le_trans h.ns hB.size) (Nat.le_refl _)
/-- The first that is none of nought. -/
def firstE : List Int → Int
  | [] => 0
  | e :: r => if e ≠ 0 then e else firstE r
/-- The error of the prices. -/
def pE (l : List V10.Ve) : Int := if l ≠ [] ∧ ∀ v ∈ l, v.ps.length = 8 then 0 else 110
def tarE (x : Ta) : Int := firstE [zE x.off x.R x.zl, H8.calE x.H x.hl x.S x.sl, B9.tErr x.P x.pl x.Q x.rl, V10.tErr x.l, pE x.l]
/-- The tariff may be. -/
def TarIs (x : Ta) : Prop := ZoneIs x.off x.R x.zl ∧ H8.CalIs x.H x.hl x.S x.sl ∧ B9.TabIs x.P x.pl x.Q x.rl ∧ V10.TabMay x.l ∧ x.l ≠ [] ∧ ∀ v ∈ x.l, v.ps.length = 8
theorem tarE_yes {x : Ta} (h : TarIs x) : tarE x = 0 := by
  obtain ⟨h1, h2, h3, h4, h5⟩ := h
  have hp : pE x.l = 0 := if_pos h5
  simp [tarE, firstE, zE_yes h1, H8.calE, h2, B9.tErr_yes h3, V10.tErr, h4, hp]
theorem tarE_no {x : Ta} (h : tarE x = 0) : TarIs x := by
  unfold tarE at h
  by_cases h1 : ZoneIs x.off x.R x.zl
  · by_cases h2 : H8.CalIs x.H x.hl x.S x.sl
    · by_cases h3 : B9.TabIs x.P x.pl x.Q x.rl
      · by_cases h4 : V10.TabMay x.l
        · by_cases h5 : x.l ≠ [] ∧ ∀ v ∈ x.l, v.ps.length = 8
          · exact ⟨h1, h2, h3, h4, h5⟩
          · have hp : pE x.l = 110 := if_neg h5
            simp [firstE, zE_yes h1, H8.calE, h2, B9.tErr_yes h3, V10.tErr, h4, hp] at h
        · simp [firstE, zE_yes h1, H8.calE, h2, B9.tErr_yes h3, V10.tErr, h4] at h
      · simp [firstE, zE_yes h1, H8.calE, h2, B9.tErr_no h3] at h
    · simp [firstE, zE_yes h1, H8.calE, h2] at h
  · simp [firstE, zE_no h1] at h
end Go.Proofs.YtbffmobjiiicoaaDoor
