/- Contracts of the document's functions on zones: what Offset refuses; Offset of anything. -/
import Derived.Test.YtobnlcmamnoefaaDoorZOffset
set_option linter.unusedVariables false
set_option linter.unusedSimpArgs false
namespace Go.Proofs.YtobnlcmamnoefaaDoor
open Go.RowKit Go.Shelf
theorem roffset_bad (off t : Int) (a : Option Addr) (len cap : Nat) (R : Nat → Rl) (w : World) (hl : len ≤ 1000) (hR : RulesAt w.heap.size w a len R) (hz : ¬ ZoneIs off R len) :
    Calls Tryd.prog 16 #[zoneV off a len cap, .int .i64 t] w fun e w' => e = .returned (.tuple #[.int .i64 0, .int .i64 70]) ∧ Below w.heap.size w w' := by
  have hb0 := (Below.refl _ w).alloc (Nat.le_refl _) (.cells #[.int .i64 off, .slice a len cap] 24)
  have HM := Lib.hid (rmayZ_any off a len cap R _ hl ((hR.next hb0).mono hb0.size))
  rw [decide_eq_false hz] at HM
  have HB0 := Lib.hid hb0
  clear hb0 hz hR hl
  go_enter Tryd.func16, Tryd.ntmps16
  go_wp2_with fail
  refine HM.out.mono ?_
  rintro e W1 ⟨rfl, hB⟩
  go_wp2
  go_ret2
  exact ⟨rfl, HB0.out.trans (hB.mono HB0.out.size)⟩
set_option maxHeartbeats 1000000 in
theorem roffset_far (off t : Int) (a : Option Addr) (len cap : Nat) (R : Nat → Rl) (w : World) (hR : RulesAt w.heap.size w a len R) (hz : ZoneIs off R len) (ht : ¬ (-100000 ≤ t ∧ t ≤ 253402400800)) :
    Calls Tryd.prog 16 #[zoneV off a len cap, .int .i64 t] w fun e w' => e = .returned (.tuple #[.int .i64 0, .int .i64 60]) ∧ Below w.heap.size w w' := by
  have hb0 := (Below.refl _ w).alloc (Nat.le_refl _) (.cells #[.int .i64 off, .slice a len cap] 24)
  have HM := Lib.hid (rmayZ_any off a len cap R _ (by have := hz.2.1; omega) ((hR.next hb0).mono hb0.size))
  rw [decide_eq_true hz] at HM
  have HB0 := Lib.hid hb0
  clear hb0 hz hR
  have hcase : t < -100000 ∨ (-100000 ≤ t ∧ 253402400800 < t) := by omega
  clear ht
  rcases hcase with h1 | ⟨h1, h2⟩
  all_goals
    go_enter Tryd.func16, Tryd.ntmps16
    go_wp2_with fail
    refine HM.out.mono ?_
    rintro e W1 ⟨rfl, hB⟩
    go_wp2
    go_ret2
    exact ⟨rfl, HB0.out.trans (hB.mono HB0.out.size)⟩
set_option maxHeartbeats 1000000 in
theorem roffset_out (off t : Int) (a : Option Addr) (len cap : Nat) (R : Nat → Rl) (w : World) (hR : RulesAt w.heap.size w a len R) (hz : ZoneIs off R len) (h0 : -100000 ≤ t) (h1 : t ≤ 253402400800) (hs : ¬ (0 ≤ t + off ∧ t + off < 253402300800)) :
    Calls Tryd.prog 16 #[zoneV off a len cap, .int .i64 t] w fun e w' => e = .returned (.tuple #[.int .i64 0, .int .i64 60]) ∧ Below w.heap.size w w' := by
  have hb0 := (Below.refl _ w).alloc (Nat.le_refl _) (.cells #[.int .i64 off, .slice a len cap] 24)
  have hr := heap_alloc_new w (.cells #[.int .i64 off, .slice a len cap] 24)
  have HM := Lib.hid (rmayZ_any off a len cap R _ (by have := hz.2.1; omega) ((hR.next hb0).mono hb0.size))
  rw [decide_eq_true hz] at HM
  have HB0 := Lib.hid hb0
  have G0 := Lib.hid hr
  have o0 := hz.1.1
  have o1 := hz.1.2
  clear hb0 hr hz hR
  obtain ⟨s, hse⟩ : ∃ s, t + off = s := ⟨_, rfl⟩
  rw [hse] at hs
  have hcase : s < 0 ∨ (0 ≤ s ∧ 253402300800 ≤ s) := by omega
  clear hs
  rcases hcase with h2 | ⟨h2, h3⟩
  all_goals
    go_enter Tryd.func16, Tryd.ntmps16
    go_wp2_with fail
    refine HM.out.mono ?_
    rintro e W1 ⟨rfl, hB⟩
    have c0 : W1.cell? ⟨w.heap.size, 0, none⟩ = some (.int .i64 off) := cell_of_row W1 _ 0 _ _ _ ((hB.block w.heap.size (Array.getElem?_eq_some_iff.1 G0.out).1).trans G0.out)
    go_wp2
    go_ret2
    exact ⟨rfl, HB0.out.trans (hB.mono HB0.out.size)⟩
/-- The year of standard time s. -/
def yearI (s : Int) : Int := 1970 + (((List.range 8030).find? (fun k : Nat => decide (s / 86400 < ahead (1970 + (k : Int) + 1)))).getD 0 : Nat)
theorem yearI_is {s y mo d : Int} (h : IsDate (s / 86400) y mo d) : yearI s = y := by
  obtain ⟨h1, h2⟩ := in_year h.1
  rw [← h.2] at h1 h2
  have b1 := h.1.1
  have b2 := h.1.2.1
  unfold yearI
  have hf : (List.range 8030).find? (fun k : Nat => decide (s / 86400 < ahead (1970 + (k : Int) + 1))) = some (y - 1970).toNat := by
    refine List.find?_range_eq_some.2 ⟨?_, ?_, fun j hj => ?_⟩
    · rw [decide_eq_true_iff, show 1970 + ((y - 1970).toNat : Int) + 1 = y + 1 by omega]; exact h2
    · rw [List.mem_range]; omega
    · have := ahead_le (a := 1970 + (j : Int) + 1) (b := y) (by omega)
      simp; omega
  rw [hf]
  simp; omega
/-- Has t a standard and a local time? -/
def OffIs (off : Int) (R : Nat → Rl) (len : Nat) (t : Int) : Prop := (0 ≤ t + off ∧ t + off < 253402300800) ∧ t + nOf off R len (yearI (t + off)) (t + off) < 253402300800
theorem roffset_any (off t : Int) (a : Option Addr) (len cap : Nat) (R : Nat → Rl) (w : World) (hR : RulesAt w.heap.size w a len R) (hz : ZoneIs off R len) :
    (OffIs off R len t ∧ Calls Tryd.prog 16 #[zoneV off a len cap, .int .i64 t] w fun e w' => e = .returned (.tuple #[.int .i64 (nOf off R len (yearI (t + off)) (t + off)), .int .i64 0]) ∧ Below w.heap.size w w') ∨
    (¬ OffIs off R len t ∧ Calls Tryd.prog 16 #[zoneV off a len cap, .int .i64 t] w fun e w' => e = .returned (.tuple #[.int .i64 0, .int .i64 60]) ∧ Below w.heap.size w w') := by
  have o0 := hz.1.1
  have o1 := hz.1.2
  by_cases hs : 0 ≤ t + off ∧ t + off < 253402300800
  · obtain ⟨y, mo, d, hd⟩ := date_exists ((t + off) / 86400) (by omega) (by omega)
    have h := roffset_in off t a len cap R w hR hz (by omega) (by omega) hs.1 hs.2 y mo d hd
    unfold OffIs
    rw [yearI_is hd]
    by_cases he : 253402300800 ≤ t + nOf off R len y (t + off)
    · rw [if_pos he] at h
      exact .inr ⟨fun z => by have := z.2; omega, h⟩
    · rw [if_neg he] at h
      exact .inl ⟨⟨hs, by omega⟩, h⟩
  · refine .inr ⟨fun z => hs z.1, ?_⟩
    by_cases ht : -100000 ≤ t ∧ t ≤ 253402400800
    · exact roffset_out off t a len cap R w hR hz ht.1 ht.2 hs
    · exact roffset_far off t a len cap R w hR hz ht
end Go.Proofs.YtobnlcmamnoefaaDoor
