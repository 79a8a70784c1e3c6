/- A year's changes: what the instants around them are. -/
import Derived.Test.YtobnlcmamnoefaaDoorYPlain
set_option linter.unusedVariables false
set_option linter.unusedSimpArgs false
namespace Go.Proofs.YtobnlcmamnoefaaDoor
open Go.RowKit Go.Shelf
theorem mom_exists (L : Int) (h0 : 0 ≤ L) (h1 : L < 253402300800) : ∃ y m d h mi s, MomIs y m d h mi s ∧ secOf y m d h mi s = L := by
  obtain ⟨y, m, d, hd⟩ := date_exists (L / 86400) (by omega) (by omega)
  obtain ⟨q1, q2⟩ := sec_of hd
  exact ⟨y, m, d, _, _, _, q1, q2⟩
theorem at_mom {y m d h mi s : Int} (hm : MomIs y m d h mi s) (L : Int) (hL : secOf y m d h mi s = L) (w : World) (hT : Tabs w) :
    Calls Tryd.prog 29 #[.int .i64 L] w fun e w' => e = .returned (.tuple #[momV y m d h mi s, .int .i64 0]) ∧ Below w.heap.size w w' := by
  have hlb := sec_bounds hm
  obtain ⟨p0, p1, p2, p3⟩ := sec_parts hm
  rw [hL] at hlb p0 p1 p2 p3
  have := at_yes L hlb.1 hlb.2 y m d p0 w hT
  rw [p1, p2, p3] at this
  exact this
theorem instant_mom {y m d h mi s : Int} (hm : MomIs y m d h mi s) (L : Int) (hL : secOf y m d h mi s = L) (w : World) (hT : Tabs w) :
    Calls Tryd.prog 28 #[momV y m d h mi s] w fun e w' => e = .returned (.tuple #[.int .i64 L, .int .i64 0]) ∧ Below w.heap.size w w' := by
  have := instant_any y m d h mi s w hT
  rw [show instV y m d h mi s = L by unfold instV; rw [if_pos hm, hL], show momE y m d h mi s = 0 from if_pos hm] at this
  exact this
theorem local_mom {off t : Int} {a : Option Addr} {len cap : Nat} {R : Nat → Rl} {w : World} (hR : RulesAt w.heap.size w a len R) (hz : ZoneIs off R len) (hT : Tabs w) (hO : OffIs off R len t) {y m d h mi s : Int} (hm : MomIs y m d h mi s) (hL : secOf y m d h mi s = t + offT off R len t) (B : Bool) (hB : (xOf R len (yearI (t + off)) (t + off) != 0) = B) :
    Calls Tryd.prog 17 #[zoneV off a len cap, .int .i64 t] w fun e w' => e = .returned (.tuple #[momV y m d h mi s, .bool B, .int .i64 0]) ∧ Below w.heap.size w w' := by
  obtain ⟨p0, p1, p2, p3⟩ := sec_parts hm
  have := localZ_yes off t a len cap R w hR hz hT hO (secOf y m d h mi s) hL y m d p0
  rw [p1, p2, p3, hB] at this
  exact this
theorem year_in {s y : Int} (hy : 1970 ≤ y) (hy2 : y ≤ 9999) (h0 : ahead y * 86400 ≤ s) (h1 : s < ahead (y + 1) * 86400) : yearI s = y := by
  have a0 := ahead_le (a := 1970) (b := y) hy
  have a1 := ahead_le (a := y + 1) (b := 10000) (by omega)
  rw [ahead_1970] at a0
  rw [ahead_10000] at a1
  obtain ⟨y', m, d, hd⟩ := date_exists (s / 86400) (by omega) (by omega)
  rw [yearI_is hd]
  have hi := in_year hd.1
  rw [← hd.2] at hi
  by_cases c1 : y' < y
  · have := ahead_le (a := y' + 1) (b := y) (by omega)
    omega
  · by_cases c2 : y < y'
    · have := ahead_le (a := y + 1) (b := y') (by omega)
      omega
    · omega
/-- What holds of a zone of one rule whose changes lie within a year's midst. -/
structure Mid (off : Int) (R : Nat → Rl) (y V1 V2 x : Int) : Prop where
  hz : ZoneIs off R 1
  hi : ruleI R 1 y = (0 : Nat)
  h1 : onOf (R 0) y = V1
  h2 : offOf (R 0) y = V2
  hx : (R 0).x = x
  x0 : 1 ≤ x
  x1 : x ≤ 7200
  y0 : 1970 < y
  y1 : y < 9999
  lo : ahead y * 86400 + 100000 ≤ V1
  hi2 : V2 + 100000 ≤ ahead (y + 1) * 86400
  gap : V1 + 86400 ≤ V2
namespace Mid
variable {off : Int} {R : Nat → Rl} {y V1 V2 x : Int} (h : Mid off R y V1 V2 x)
include h
theorem year {s : Int} (h0 : V1 - 90000 ≤ s) (h3 : s ≤ V2 + 90000) : yearI s = y := by
  have := h.lo; have := h.hi2; have := h.y0; have := h.y1
  exact year_in (by omega) (by omega) (by omega) (by omega)
theorem xs {s : Int} (h0 : V1 - 90000 ≤ s) (h3 : s ≤ V2 + 90000) : xOf R 1 (yearI s) s = if V1 ≤ s ∧ s < V2 then x else 0 := by
  rw [h.year h0 h3, xOf_some h.hi, h.h1, h.h2, h.hx]
  have := h.gap
  by_cases c : V1 ≤ s ∧ s < V2
  · rw [if_pos c, if_pos (.inl ⟨by omega, c.1, c.2⟩)]
  · rw [if_neg c, if_neg]
    rintro (⟨_, q1, q2⟩ | ⟨q, _⟩)
    · exact c ⟨q1, q2⟩
    · omega
theorem ends : 0 ≤ V1 - 90000 ∧ V2 + 90000 < 253402300800 := by
  have := h.lo; have := h.hi2; have := h.y0; have := h.y1
  have a0 := ahead_le (a := 1970) (b := y) (by omega)
  have a1 := ahead_le (a := y + 1) (b := 10000) (by omega)
  rw [ahead_1970] at a0
  rw [ahead_10000] at a1
  omega
theorem offT_at {t : Int} (h0 : V1 - 90000 ≤ t + off) (h3 : t + off ≤ V2 + 90000) : offT off R 1 t = off + if V1 ≤ t + off ∧ t + off < V2 then x else 0 := by
  rw [offT_x, h.xs h0 h3]
theorem is {t : Int} (h0 : V1 - 90000 ≤ t + off) (h3 : t + off ≤ V2 + 80000) : OffIs off R 1 t := by
  have he := h.ends
  have ho := h.offT_at h0 (by omega)
  have hx0 := h.x0; have hx1 := h.x1
  refine ⟨⟨by omega, by omega⟩, ?_⟩
  show t + offT off R 1 t < 253402300800
  rw [ho]
  split <;> omega
theorem never : insts off R 1 (V1 + x - 1) = [] := by
  have he := h.ends
  have hx0 := h.x0; have hx1 := h.x1; have hg := h.gap
  refine List.eq_nil_iff_forall_not_mem.2 fun t ht => ?_
  obtain ⟨hO, hL⟩ := (mem_insts h.hz (by omega) t).1 ht
  have hb := xOf_bounds h.hz (yearI (t + off)) (t + off)
  have hx := offT_x off R 1 t
  have ho := h.offT_at (t := t) (by omega) (by omega)
  split at ho <;> omega
theorem twice : insts off R 1 (V2 + x - 1) = [V2 - 1 - off, V2 + x - 1 - off] := by
  have he := h.ends
  have hx0 := h.x0; have hx1 := h.x1; have hg := h.gap
  refine asc_eq pair_insts (by simp; omega) fun t => ?_
  rw [mem_insts h.hz (by omega)]
  simp only [List.mem_cons, List.not_mem_nil, or_false]
  constructor
  · rintro ⟨hO, hL⟩
    have hb := xOf_bounds h.hz (yearI (t + off)) (t + off)
    have hx := offT_x off R 1 t
    have ho := h.offT_at (t := t) (by omega) (by omega)
    split at ho <;> omega
  · rintro (rfl | rfl)
    · refine ⟨h.is (by omega) (by omega), ?_⟩
      rw [h.offT_at (by omega) (by omega), if_pos ⟨by omega, by omega⟩]
      omega
    · refine ⟨h.is (by omega) (by omega), ?_⟩
      rw [h.offT_at (by omega) (by omega), if_neg (by omega)]
      omega
end Mid
theorem sec_13 {y : Int} (hy : 1970 ≤ y ∧ y ≤ 9999) : MomIs y 1 3 0 0 0 ∧ secOf y 1 3 0 0 0 = ahead y * 86400 + 172800 := by
  refine ⟨⟨⟨hy.1, hy.2, by omega, by omega, by omega, ?_⟩, ⟨by omega, by omega⟩, ⟨by omega, by omega⟩, by omega, by omega⟩, ?_⟩
  · simp [dlen, mlen]
  · unfold secOf dayOf
    simp [bef, cum]
    omega
theorem sec_29 {y : Int} (hy : 1970 ≤ y ∧ y ≤ 9999) : MomIs y 12 29 0 0 0 ∧ secOf y 12 29 0 0 0 = ahead (y + 1) * 86400 - 259200 := by
  have := ahead_succ (y := y) (by omega)
  refine ⟨⟨⟨hy.1, hy.2, by omega, by omega, by omega, ?_⟩, ⟨by omega, by omega⟩, ⟨by omega, by omega⟩, by omega, by omega⟩, ?_⟩
  · simp [dlen, mlen]
  · unfold secOf dayOf
    simp [bef, cum]
    omega
end Go.Proofs.YtobnlcmamnoefaaDoor
