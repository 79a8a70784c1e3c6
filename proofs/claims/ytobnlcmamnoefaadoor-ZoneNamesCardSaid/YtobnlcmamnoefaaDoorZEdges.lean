/- Contracts of the document's functions on zones: Edges. -/
import Derived.Test.YtobnlcmamnoefaaDoorZMay
import Derived.Deep.RegionHeld3
set_option linter.unusedVariables false
set_option linter.unusedSimpArgs false
namespace Go.Proofs.YtobnlcmamnoefaaDoor
open Go.RowKit Go.Shelf
def onOf (r : Rl) (y : Int) : Int := atV y r.m1 r.w1 r.n1 r.t1
def offOf (r : Rl) (y : Int) : Int := atV y r.m2 r.w2 r.n2 r.t2
theorem rl_year {r : Rl} {y : Int} (h : RlIs r) (hy : r.of y) : 1970 ≤ y ∧ y ≤ 9999 := by
  obtain ⟨⟨h1, h2, h3⟩, _⟩ := h
  obtain ⟨h4, h5⟩ := hy
  omega
set_option maxRecDepth 100000 in
set_option maxHeartbeats 4000000 in
theorem redges_yes (off : Int) (a : Option Addr) (len cap : Nat) (R : Nat → Rl) (y : Int) (w : World) (hl : len ≤ 1000) (hR : RulesAt w.heap.size w a len R) (k : Nat) (hk : k < len) (hi : ruleI R len y = k) (hz : RlIs (R k)) (hy : (R k).of y) :
    Calls Tryd.prog 15 #[zoneV off a len cap, .int .i64 y] w fun e w' => e = .returned (.tuple #[.int .i64 (onOf (R k) y), .int .i64 (offOf (R k) y), .bool true]) ∧ Below w.heap.size w w' := by
  have hyy := rl_year hz hy
  have hb0 := (Below.refl _ w).alloc (Nat.le_refl _) (.cells #[.int .i64 off, .slice a len cap] 24)
  have hr := heap_alloc_new w (.cells #[.int .i64 off, .slice a len cap] 24)
  have hRn := (hR.next hb0).mono hb0.size
  have H1 := Lib.hid (rrule_any off a len cap R y _ hl hRn)
  rw [hi] at H1
  obtain ⟨b, o, rfl, hb, hrl⟩ := hR k hk
  have HRL := Lib.hid hrl
  obtain ⟨r, hrk⟩ : ∃ r, r = R k := ⟨_, rfl⟩
  rw [← hrk] at HRL hz ⊢
  have H2 := Lib.hid (fun X => rat_any y r.m1 r.w1 r.n1 r.t1 hyy hz.2.2.1 X)
  have H3 := Lib.hid (fun X => rat_any y r.m2 r.w2 r.n2 r.t2 hyy hz.2.2.2 X)
  rw [show atV y r.m1 r.w1 r.n1 r.t1 = onOf r y from rfl] at H2
  rw [show atV y r.m2 r.w2 r.n2 r.t2 = offOf r y from rfl] at H3
  obtain ⟨V1, hV1⟩ : ∃ v, v = onOf r y := ⟨_, rfl⟩
  obtain ⟨V2, hV2⟩ : ∃ v, v = offOf r y := ⟨_, rfl⟩
  rw [← hV1] at H2 ⊢
  rw [← hV2] at H3 ⊢
  clear hV1 hV2 hz hy hi hrk hl hRn hrl hR hyy
  obtain ⟨f, l, m1, w1, n1, t1, m2, w2, n2, t2, x⟩ := r
  simp only [] at H2 H3
  have HB0 := Lib.hid hb0
  have G0 := Lib.hid hr
  have hki : (k : Int) < len := by omega
  have hk0 : decide ((k : Int) < 0) = false := decide_eq_false (by omega)
  clear hb0 hr
  go_enter Tryd.func15, Tryd.ntmps15
  go_wp2_with fail
  refine H1.out.mono ?_
  rintro e w1' ⟨rfl, hB1⟩
  have hb1 := HB0.out.trans (hB1.mono HB0.out.size)
  have hg1 := (hB1.block w.heap.size (Array.getElem?_eq_some_iff.1 G0.out).1).trans G0.out
  have hl1 : w.heap.size < w1'.drew.heap.size := (Array.getElem?_eq_some_iff.1 hg1).1
  have HB1 := Lib.hid hb1.drew
  have G1 := Lib.hid hg1
  have c1 : w1'.cell? ⟨w.heap.size, 1, none⟩ = some (.slice (some ⟨b, o, none⟩) len cap) := cell_of_row w1' _ 1 _ _ _ hg1
  have hrl1 := HRL.out.below hb hb1
  obtain ⟨r0, r1, r2, r3, r4, r5, r6, r7, r8, r9, r10⟩ := hrl1
  simp only [] at r2 r3 r4 r5 r6 r7 r8 r9
  clear hB1 hb1 hg1 HB0 G0 H1 r0 r1 r10
  go_wp2_with fail
  go_region_held3 (fun w' => w'.cell? ⟨w.heap.size, 1, none⟩ = some (.slice (some ⟨b, o, none⟩) len cap) ∧ w'.cell? ⟨b, o + k * 11 + 2, none⟩ = some (.int .i64 m1) ∧ w'.cell? ⟨b, o + k * 11 + 3, none⟩ = some (.int .i64 w1) ∧ w'.cell? ⟨b, o + k * 11 + 4, none⟩ = some (.int .i64 n1) ∧ w'.cell? ⟨b, o + k * 11 + 5, none⟩ = some (.int .i64 t1) ∧ w'.cell? ⟨b, o + k * 11 + 6, none⟩ = some (.int .i64 m2) ∧ w'.cell? ⟨b, o + k * 11 + 7, none⟩ = some (.int .i64 w2) ∧ w'.cell? ⟨b, o + k * 11 + 8, none⟩ = some (.int .i64 n2) ∧ w'.cell? ⟨b, o + k * 11 + 9, none⟩ = some (.int .i64 t2))
    (first | exact ⟨c1, r2, r3, r4, r5, r6, r7, r8, r9⟩ | exact (show _ ∧ _ from ⟨cell_of_row w3' _ 1 _ _ _ g3, (HRL.out.below hb b3).2.2.1, (HRL.out.below hb b3).2.2.2.1, (HRL.out.below hb b3).2.2.2.2.1, (HRL.out.below hb b3).2.2.2.2.2.1, (HRL.out.below hb b3).2.2.2.2.2.2.1, (HRL.out.below hb b3).2.2.2.2.2.2.2.1, (HRL.out.below hb b3).2.2.2.2.2.2.2.2.1, (HRL.out.below hb b3).2.2.2.2.2.2.2.2.2.1⟩) | exact (show _ ∧ _ from ⟨cell_of_row w2' _ 1 _ _ _ g2, (HRL.out.below hb b2).2.2.1, (HRL.out.below hb b2).2.2.2.1, (HRL.out.below hb b2).2.2.2.2.1, (HRL.out.below hb b2).2.2.2.2.2.1, (HRL.out.below hb b2).2.2.2.2.2.2.1, (HRL.out.below hb b2).2.2.2.2.2.2.2.1, (HRL.out.below hb b2).2.2.2.2.2.2.2.2.1, (HRL.out.below hb b2).2.2.2.2.2.2.2.2.2.1⟩) | go_keep)
    (first
      | (go_at_call 36; ((with_reducible refine (H2.out _).mono ?_); rintro e w2' ⟨rfl, hB2⟩; have b2 := HB1.out.trans (hB2.mono HB1.out.size); have g2 := (hB2.block w.heap.size hl1).trans G1.out; have hl2 := (Array.getElem?_eq_some_iff.1 g2).1; clear hB2))
      | (go_at_call 36; ((with_reducible refine (H3.out w2').mono ?_); rintro e w3' ⟨rfl, hB3⟩; have b3 := b2.trans (hB3.mono b2.size); have g3 := (hB3.block w.heap.size hl2).trans g2; clear hB3)))
  go_wp2
  go_ret3
  exact ⟨rfl, b3⟩
set_option maxHeartbeats 2000000 in
theorem redges_no (off : Int) (a : Option Addr) (len cap : Nat) (R : Nat → Rl) (y : Int) (w : World) (hl : len ≤ 1000) (hR : RulesAt w.heap.size w a len R) (hi : ruleI R len y = -1) :
    Calls Tryd.prog 15 #[zoneV off a len cap, .int .i64 y] w fun e w' => e = .returned (.tuple #[.int .i64 0, .int .i64 0, .bool false]) ∧ Below w.heap.size w w' := by
  have hb0 := (Below.refl _ w).alloc (Nat.le_refl _) (.cells #[.int .i64 off, .slice a len cap] 24)
  have H1 := Lib.hid (rrule_any off a len cap R y _ hl ((hR.next hb0).mono hb0.size))
  rw [hi] at H1
  have HB0 := Lib.hid hb0
  clear hb0 hR hi hl
  go_enter Tryd.func15, Tryd.ntmps15
  go_wp2_with fail
  refine H1.out.mono ?_
  rintro e w1' ⟨rfl, hB1⟩
  go_wp2
  go_ret3
  exact ⟨rfl, HB0.out.trans (hB1.mono HB0.out.size)⟩
end Go.Proofs.YtobnlcmamnoefaaDoor
