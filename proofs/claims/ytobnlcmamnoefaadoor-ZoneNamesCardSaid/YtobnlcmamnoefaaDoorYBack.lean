/- The walk of the statement ZoneBack. -/
import Derived.Test.YtobnlcmamnoefaaDoorYBackW
set_option linter.unusedVariables false
set_option linter.unusedSimpArgs false
namespace Go.Proofs.YtobnlcmamnoefaaDoor
open Go.RowKit Go.Shelf
/-- Of a list that ascends, the element behind another one is greater. -/
theorem asc_step {L : List Int} (h : L.Pairwise (· < ·)) (j : Nat) (hj : j + 1 < L.length) : L.getD j 0 < L.getD (j + 1) 0 := by
  have h1 : j < L.length := by omega
  have := List.pairwise_iff_getElem.1 h j (j + 1) h1 hj (by omega)
  simpa [List.getD, h1, hj] using this
/-- A moment's day and time are those of its seconds. -/
theorem sec_parts {y m d h mi s : Int} (hm : MomIs y m d h mi s) : IsDate (secOf y m d h mi s / 86400) y m d ∧ secOf y m d h mi s % 86400 / 3600 = h ∧ secOf y m d h mi s % 3600 / 60 = mi ∧ secOf y m d h mi s % 60 = s := by
  obtain ⟨hd, ⟨h1, h2⟩, ⟨h3, h4⟩, h5, h6⟩ := hm
  refine ⟨⟨hd, ?_⟩, ?_, ?_, ?_⟩ <;> (unfold secOf; omega)
/-- The moment of some seconds. -/
theorem sec_of {L y m d : Int} (hd : IsDate (L / 86400) y m d) : MomIs y m d (L % 86400 / 3600) (L % 3600 / 60) (L % 60) ∧ secOf y m d (L % 86400 / 3600) (L % 3600 / 60) (L % 60) = L := by
  refine ⟨⟨hd.1, ⟨by omega, by omega⟩, ⟨by omega, by omega⟩, by omega, by omega⟩, ?_⟩
  unfold secOf
  have := hd.2
  omega
theorem back_list {off : Int} {R : Nat → Rl} {len : Nat} {loc : Int} (hn : len ≤ 20) : (insts off R len loc).length ≤ 30 := by
  have := insts_len (off := off) (R := R) (len := len) (loc := loc)
  omega
theorem insts_one {off : Int} {R : Nat → Rl} {loc t : Int} (ht : t ∈ insts off R 0 loc) : (insts off R 0 loc).length = 1 := by
  have := insts_len (off := off) (R := R) (len := 0) (loc := loc)
  have : 0 < (insts off R 0 loc).length := List.length_pos_of_mem ht
  omega
section
variable (off t : Int) (a : Option Addr) (len cap : Nat) (R : Nat → Rl) (w : World)
theorem backB_of (y m d h mi s : Int) (hT : Tabs w) (hR : RulesAt w.heap.size w a len R) (hl : len ≤ 100) : ∃ G L2 bf, BackB off t a len cap w y m d h mi s G L2 bf := by
  have hR' := fun X (hX : Below w.heap.size w X) => (hR.next hX).mono hX.size
  by_cases hz : ZoneIs off R len
  · by_cases hm : MomIs y m d h mi s
    · have hlb := sec_bounds hm
      obtain ⟨p0, p1, p2, p3⟩ := sec_parts hm
      refine ⟨0, insts off R len (secOf y m d h mi s), fun j => xOf R len (yearI ((insts off R len (secOf y m d h mi s)).getD j 0 + off)) ((insts off R len (secOf y m d h mi s)).getD j 0 + off) != 0, .inl ⟨rfl, fun j hj => asc_step pair_insts j hj, back_list hz.2.1, fun X hX => instants_yes off a len cap R y m d h mi s X (hR' X hX) hz (hT.next hX) hm, fun j hj X hX => ?_⟩⟩
      have hmem : (insts off R len (secOf y m d h mi s)).getD j 0 ∈ insts off R len (secOf y m d h mi s) := by
        simp [List.getD, hj]
      obtain ⟨hO, he⟩ := (mem_insts hz hlb.2 _).1 hmem
      have := localZ_yes off _ a len cap R X (hR' X hX) hz (hT.next hX) hO (secOf y m d h mi s) he.symm y m d p0
      rw [p1, p2, p3] at this
      exact this
    · exact ⟨60, [], fun _ => false, .inr ⟨.inl rfl, fun X hX => instants_time off a len cap R y m d h mi s X (hR' X hX) hz (hT.next hX) hm⟩⟩
  · exact ⟨70, [], fun _ => false, .inr ⟨.inr rfl, fun X hX => instants_bad off a len cap R y m d h mi s X (by omega) (hR' X hX) hz⟩⟩
theorem zoneBack_yes (y m d h mi s : Int) (hT : Tabs w) (hR : RulesAt w.heap.size w a len R) (ht : In64 t) (hl : len ≤ 100) :
    Calls Tryd.prog 6 #[zoneV off a len cap, .int .i64 t, momV y m d h mi s] w fun e w' => e = .returned (.bool true) ∧ Below w.heap.size w w' := by
  have hR' := fun X (hX : Below w.heap.size w X) => (hR.next hX).mono hX.size
  obtain ⟨G, L2, bf, HB⟩ := backB_of off t a len cap R w y m d h mi s hT hR hl
  by_cases hz : ZoneIs off R len
  · by_cases hO : OffIs off R len t
    · have hx := offT_x off R len t
      have hNb := xOf_bounds hz (yearI (t + off)) (t + off)
      obtain ⟨⟨o1, o2⟩, o3⟩ := id hO
      have o4 : t + offT off R len t < 253402300800 := o3
      obtain ⟨yy, mm, dd, hd⟩ := date_exists ((t + offT off R len t) / 86400) (by omega) (by omega)
      obtain ⟨q1, q2⟩ := sec_of hd
      have hmem : t ∈ insts off R len (t + offT off R len t) := (mem_insts hz o4 t).2 ⟨hO, rfl⟩
      refine zback_walk off t a len cap y m d h mi s w hT hl _ _ _ _ _ _ 0 _ (insts off R len (t + offT off R len t)) L2 G bf (fun X hX => localZ_yes off t a len cap R X (hR' X hX) hz (hT.next hX) hO _ rfl yy mm dd hd) (.inl ⟨rfl, hmem, ?_, back_list hz.2.1, fun X hX => ?_⟩) HB
      · intro e
        subst e
        exact insts_one hmem
      · have := instants_yes off a len cap R yy mm dd _ _ _ X (hR' X hX) hz (hT.next hX) q1
        rw [q2] at this
        exact this
    · exact zback_walk off t a len cap y m d h mi s w hT hl 0 0 0 0 0 0 60 false [] L2 G bf (fun X hX => localZ_no off t a len cap R X ht (hR' X hX) hz (hT.next hX) hO) (.inr (.inl rfl)) HB
  · exact zback_walk off t a len cap y m d h mi s w hT hl 0 0 0 0 0 0 70 false [] L2 G bf (fun X hX => localZ_bad off t a len cap R X (by omega) (hR' X hX) hz) (.inr (.inr rfl)) HB
set_option maxRecDepth 100000 in
set_option maxHeartbeats 2000000 in
theorem zoneBack_many (y m d h mi s : Int) (hT : Tabs w) (hl : 100 < len) :
    Calls Tryd.prog 6 #[zoneV off a len cap, .int .i64 t, momV y m d h mi s] w fun e w' => e = .returned (.bool true) ∧ Below w.heap.size w w' := by
  have hli : (100 : Int) < len := by omega
  have hb0 := (Below.refl _ w).alloc (Nat.le_refl _) (.cells #[.int .i64 off, .slice a len cap] 24)
  have hb1 := hb0.alloc hb0.size (.cells #[.int .i64 y, .int .i64 m, .int .i64 d, .int .i64 h, .int .i64 mi, .int .i64 s] 44)
  have hz := heap_old (heap_alloc_new w (.cells #[.int .i64 off, .slice a len cap] 24)) (.cells #[.int .i64 y, .int .i64 m, .int .i64 d, .int .i64 h, .int .i64 mi, .int .i64 s] 44)
  have H1 := Lib.hid (alive_any _ (hT.next hb1))
  have HBB := Lib.hid hb1
  have HZ := Lib.hid hz
  clear hb0 hb1 hz hT hl
  go_enter Tryd.func6, Tryd.ntmps6
  go_wp2_with fail
  refine H1.out.mono ?_
  rintro e X1 ⟨rfl, hB⟩
  have hz := (hB.block w.heap.size (Array.getElem?_eq_some_iff.1 HZ.out).1).trans HZ.out
  have z1 : X1.cell? ⟨w.heap.size, 1, none⟩ = some (.slice a len cap) := cell_of_row X1 _ 1 _ _ _ hz
  have HB1 := Lib.hid (HBB.out.trans (hB.mono HBB.out.size))
  clear hB hz HBB HZ H1
  go_wp2
  go_ret
  exact ⟨rfl, HB1.out⟩
end
theorem zoneBack_any (off : Int) (a : Option Addr) (len cap : Nat) (R : Nat → Rl) (t : Int) (y m d h mi s : Int) (w : World) (hT : Tabs w) (w0 : In64 off ∧ RulesAt w.heap.size w a len R) (w1 : (Lit.int .i64 t).wf = true) (w2 : In64 y ∧ In64 m ∧ In64 d ∧ In64 h ∧ In64 mi ∧ In64 s) :
    Calls Tryd.prog 6 #[zoneV off a len cap, .int .i64 t, momV y m d h mi s] w fun e w' => e = .returned (.bool true) ∧ Below w.heap.size w w' := by
  by_cases hl : len ≤ 100
  · exact zoneBack_yes off t a len cap R w y m d h mi s hT w0.2 (in64_of w1) hl
  · exact zoneBack_many off t a len cap w y m d h mi s hT (by omega)
end Go.Proofs.YtobnlcmamnoefaaDoor
