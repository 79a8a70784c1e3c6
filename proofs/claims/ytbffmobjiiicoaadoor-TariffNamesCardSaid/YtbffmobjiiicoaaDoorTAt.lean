/- The program's At. -/
import Derived.Test.YtbffmobjiiicoaaDoorTLoc
set_option linter.unusedVariables false
set_option linter.unusedSimpArgs false
namespace Go.Proofs.YtbffmobjiiicoaaDoor
open Go.RowKit Go.Shelf
/-- The band of an instant. -/
def BandIs (x : Ta) (t : Int) (s k mi : Int) (b : Int) : Prop := LocIs x t s k mi ∧ ∃ p : Nat, p < x.pl ∧ B9.PlanOf x.Q x.rl s k p ∧ b = B9.bandN (x.P p).L (x.P p).len mi
theorem BandIs.unique {x : Ta} (hx : TarIs x) {t s k mi b s' k' mi' b' : Int} (h : BandIs x t s k mi b) (h' : BandIs x t s' k' mi' b') : b = b' := by
  obtain ⟨h1, p, hp, h2, h3⟩ := h
  obtain ⟨h1', p', hp', h2', h3'⟩ := h'
  obtain ⟨rfl, rfl, rfl⟩ := h1.unique hx h1'
  have e := h2.unique h2'
  obtain rfl : p = p' := by omega
  rw [h3, h3']
theorem BandIs.range {x : Ta} (hx : TarIs x) {t s k mi b : Int} (h : BandIs x t s k mi b) : 0 ≤ b ∧ b ≤ 7 := by
  obtain ⟨h1, p, hp, h2, rfl⟩ := h
  exact B9.bandN_range _ (hx.2.2.1.2.2.2.1 p hp).2.2.2 _
section
variable (x : Ta) (t : Int) (w : World) (hA : TarAt w.heap.size w x) (hL : TarLen x) (hT : Tabs w)
include hA hL hT
theorem at_bad (E : Int) (hE : (tarE x = E ∧ (E != 0) = true) ∨ (TarIs x ∧ In64 t ∧ ¬ OffT x t ∧ E = 60)) :
    Calls Tryd.prog 9 #[tarV x, .int .i64 t] w fun e w' => e = .returned (.tuple #[.int .i64 0, .int .i64 0, .int .i64 E]) ∧ Below w.heap.size w w' := by
  have hB0 := (Below.refl w.heap.size w).alloc (Nat.le_refl _) (.cells (tarC x) 40)
  have HC : Hid (Calls Tryd.prog 10 #[tarV x, .int .i64 t] (w.alloc (.cells (tarC x) 40)) fun e w' => e = .returned (.tuple #[.int .i64 0, .int .i64 0, .int .i64 0, .int .i64 E]) ∧ Below (w.alloc (.cells (tarC x) 40)).heap.size (w.alloc (.cells (tarC x) 40)) w') := by
    rcases hE with ⟨h1, h2⟩ | ⟨h1, h2, h3, rfl⟩
    · exact Lib.hid (local_bad x t _ (hA.up hB0) hL (hT.next hB0) E h1 h2)
    · exact Lib.hid (local_no x t _ (hA.up hB0) hL (hT.next hB0) h1 h2 h3)
  have h0 : (E != 0) = true := by
    rcases hE with ⟨_, h2⟩ | ⟨_, _, _, rfl⟩
    · exact h2
    · decide
  have HB := Lib.hid hB0
  clear hA hL hT hE hB0
  go_enter Tryd.func9, Tryd.ntmps9
  go_wp2_with fail
  refine HC.out.mono ?_
  rintro e w1 ⟨rfl, hB⟩
  go_wp2
  go_ret3
  exact ⟨rfl, HB.out.trans (hB.mono HB.out.size)⟩
set_option maxHeartbeats 2000000 in
/-- At, of a tariff that may be, at an instant that has a local time. -/
theorem at_ok (hx : TarIs x) (h : OffT x t) :
    Calls Tryd.prog 9 #[tarV x, .int .i64 t] w fun e w' => (∃ s k mi b, BandIs x t s k mi b ∧
      ((∃ p, V10.priceO x.l t b = some p ∧ e = .returned (.tuple #[.int .i64 b, .int .i64 p, .int .i64 0])) ∨ (V10.priceO x.l t b = none ∧ e = .returned (.tuple #[.int .i64 0, .int .i64 0, .int .i64 110])))) ∧ Below w.heap.size w w' := by
  have hB0 := (Below.refl w.heap.size w).alloc (Nat.le_refl _) (.cells (tarC x) 40)
  have HC := Lib.hid (local_yes x t (w.alloc (.cells (tarC x) 40)) (hA.up hB0) hL (hT.next hB0) hx h)
  have HAA := Lib.hid (fun W (hW : Below w.heap.size w W) => hA.up hW)
  have HTX := Lib.hid hx
  have HLL := Lib.hid hL
  have HB := Lib.hid hB0
  have HX := Lib.hid (show TarBox (w.alloc (.cells (tarC x) 40)) w.heap.size x from heap_alloc_new w _)
  clear hA hL hT hx h hB0
  go_enter Tryd.func9, Tryd.ntmps9
  go_wp2_with fail
  refine HC.out.mono ?_
  rintro e w1 ⟨⟨s, k, mi, hloc, rfl⟩, hB⟩
  have HLOC := Lib.hid hloc
  have HX1 := Lib.hid (HX.out.next hB)
  obtain ⟨c0, c1, c2, c3, c4, c5, c6⟩ := HX1.out.cells
  have HB1 := Lib.hid (HB.out.trans (hB.mono HB.out.size))
  clear hB hloc
  go_wp2_with fail
  refine (B9.planT_yes x.pa x.pl x.pc x.ra x.rl x.rc x.P x.Q s k ⟨HTX.out.2.2.1, (HLOC.out.bounds HTX.out).1, (HLOC.out.bounds HTX.out).2.1⟩ w1 (HAA.out _ HB1.out).p (HAA.out _ HB1.out).q HLL.out.p HLL.out.q).mono ?_
  rintro e w2 ⟨⟨p, hp, rfl⟩, hB⟩
  have hpb : 0 ≤ p ∧ p < x.pl := by
    have ht := HTX.out.2.2.1
    rcases hp with ⟨i, hi, _, rfl, _⟩ | ⟨rfl, _⟩
    · have := ht.2.2.2.2 i hi
      exact ⟨this.2.2.1, this.2.2.2⟩
    · have := ht.1
      omega
  obtain ⟨p, rfl⟩ := Int.eq_ofNat_of_zero_le hpb.1
  have hpl : p < x.pl := by omega
  have HX2 := Lib.hid (HX1.out.next hB)
  have HB2 := Lib.hid (HB1.out.trans (hB.mono HB1.out.size))
  clear c0 c1 c2 c3 c4 c5 c6 hB
  obtain ⟨c0, c1, c2, c3, c4, c5, c6⟩ := HX2.out.cells
  obtain ⟨ab, ao, hae, hab, d0, hdl, hdA⟩ := (HAA.out _ HB2.out).p p hpl
  rw [hae] at c4
  have i1 : (p : Int) < x.pl := by omega
  have HP := Lib.hid hp
  have HPL := Lib.hid hpl
  have HBD := Lib.hid (B9.band_yes (x.P p).a (x.P p).len (x.P p).cap (x.P p).L mi w2 hdA (Nat.le_trans hdl.1 hdl.2) (HTX.out.2.2.1.2.2.2.1 p hpl) (HLOC.out.bounds HTX.out).2.2)
  clear hp hpb hpl hab hdl hdA
  go_wp2_with fail
  refine HBD.out.mono ?_
  rintro e w3 ⟨rfl, hB⟩
  have HBI := Lib.hid (show BandIs x t s k mi (B9.bandN (x.P p).L (x.P p).len mi) from ⟨HLOC.out, p, HPL.out, HP.out, rfl⟩)
  generalize B9.bandN (x.P p).L (x.P p).len mi = b at *
  have HX3 := Lib.hid (HX2.out.next hB)
  have HB3 := Lib.hid (HB2.out.trans (hB.mono HB2.out.size))
  clear c0 c1 c2 c3 c4 c5 c6 hB d0 i1 HBD
  obtain ⟨c0, c1, c2, c3, c4, c5, c6⟩ := HX3.out.cells
  have HPR := Lib.hid (V10.price_any x.va x.l.length x.vc x.l rfl t b w3 (HAA.out _ HB3.out).v HLL.out.v)
  have hor : (∃ q, V10.priceO x.l t b = some q) ∨ V10.priceO x.l t b = none := by cases V10.priceO x.l t b <;> simp
  rcases hor with ⟨q, hq⟩ | hq
  · rw [hq, V10.optV_some] at HPR
    have HQ := Lib.hid hq
    clear hq
    go_wp2_with fail
    refine HPR.out.mono ?_
    rintro e w4 ⟨rfl, hB⟩
    go_wp2
    go_ret3
    exact ⟨⟨s, k, mi, b, HBI.out, .inl ⟨q, HQ.out, rfl⟩⟩, HB3.out.trans (hB.mono HB3.out.size)⟩
  · rw [hq, V10.optV_none] at HPR
    have HQ := Lib.hid hq
    clear hq
    go_wp2_with fail
    refine HPR.out.mono ?_
    rintro e w4 ⟨rfl, hB⟩
    go_wp2
    go_ret3
    exact ⟨⟨s, k, mi, b, HBI.out, .inr ⟨HQ.out, rfl⟩⟩, HB3.out.trans (hB.mono HB3.out.size)⟩
end
end Go.Proofs.YtbffmobjiiicoaaDoor
