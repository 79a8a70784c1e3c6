/- The walk of the statement ZonePlain. -/
import Derived.Test.YtobnlcmamnoefaaDoorYBack
set_option linter.unusedVariables false
set_option linter.unusedSimpArgs false
namespace Go.Proofs.YtobnlcmamnoefaaDoor
open Go.RowKit Go.Shelf
theorem plain_x (R : Nat → Rl) (y s : Int) : xOf R 0 y s = 0 := xOf_none rfl
theorem plain_off (off : Int) (R : Nat → Rl) (t : Int) : offT off R 0 t = off := by rw [offT_x, plain_x]; omega
theorem plain_is {off : Int} {R : Nat → Rl} (h : -50400 ≤ off ∧ off ≤ 50400) : ZoneIs off R 0 := ⟨h, by omega, fun i hi => absurd hi (Nat.not_lt_zero _)⟩
theorem plain_insts {off : Int} {R : Nat → Rl} {t : Int} (h : -50400 ≤ off ∧ off ≤ 50400) (ho : OffIs off R 0 t) (hl : t + off < 253402300800) : insts off R 0 (t + off) = [t] := by
  have hm : t ∈ insts off R 0 (t + off) := (mem_insts (plain_is h) hl t).2 ⟨ho, by rw [plain_off]⟩
  have h1 := insts_one hm
  obtain ⟨x, hx⟩ := List.length_eq_one_iff.1 h1
  rw [hx] at hm ⊢
  rw [List.mem_singleton.1 hm]
set_option maxRecDepth 100000 in
set_option maxHeartbeats 4000000 in
theorem plain_many (off t : Int) (a : Option Addr) (len cap : Nat) (R : Nat → Rl) (w : World) (hT : Tabs w) (hR : RulesAt w.heap.size w a len R) (ht : In64 t) (hl : 50 < len) :
    Calls Tryd.prog 8 #[zoneV off a len cap, .int .i64 t] w fun e w' => e = .returned (.bool true) ∧ Below w.heap.size w w' := by
  have hb0 := (Below.refl _ w).alloc (Nat.le_refl _) (.cells #[.int .i64 off, .slice a len cap] 24)
  have g_z := heap_alloc_new w (.cells #[.int .i64 off, .slice a len cap] 24)
  have H1 := Lib.hid (alive_any _ (hT.next hb0))
  have hli : (50 : Int) < len := by omega
  clear hT hR hl
  have HB0 := Lib.hid hb0
  have HG0_z := Lib.hid g_z
  clear hb0 g_z
  go_enter Tryd.func8, Tryd.ntmps8
  go_wp2_with fail
  refine (H1.out).mono ?_
  rintro e X1 ⟨rfl, hB⟩
  have hb := HB0.out.trans (hB.mono HB0.out.size)
  have g_z := (hB.block (w.heap.size) (Array.getElem?_eq_some_iff.1 HG0_z.out).1).trans HG0_z.out
  have c_z_1 : X1.cell? ⟨w.heap.size, 1, none⟩ = some (.slice a len cap) := cell_of_row X1 _ 1 _ _ _ g_z
  have lt_z : w.heap.size < X1.heap.size := (Array.getElem?_eq_some_iff.1 g_z).1
  have HB1 := Lib.hid hb
  have HG1_z := Lib.hid g_z
  clear hB hb  g_z HB0 HG0_z H1
  go_wp2
  go_ret
  exact ⟨rfl, HB1.out⟩
set_option maxRecDepth 100000 in
set_option maxHeartbeats 4000000 in
theorem plain_bad (off t : Int) (a : Option Addr) (len cap : Nat) (R : Nat → Rl) (w : World) (hT : Tabs w) (hR : RulesAt w.heap.size w a len R) (ht : In64 t) (hl : len ≤ 50) (hz : ¬ ZoneIs off R len) :
    Calls Tryd.prog 8 #[zoneV off a len cap, .int .i64 t] w fun e w' => e = .returned (.bool true) ∧ Below w.heap.size w w' := by
  have hb0 := (Below.refl _ w).alloc (Nat.le_refl _) (.cells #[.int .i64 off, .slice a len cap] 24)
  have g_z := heap_alloc_new w (.cells #[.int .i64 off, .slice a len cap] 24)
  have H1 := Lib.hid (alive_any _ (hT.next hb0))
  have hli : (len : Int) ≤ 50 := by omega
  have hll : len ≤ 1000 := by omega
  have H2 := Lib.hid (fun X (hX : Below w.heap.size w X) => checkZ_any off a len cap R X hll ((hR.next hX).mono hX.size))
  rw [zE_no hz] at H2
  clear hT hR hl hz hll
  have HB0 := Lib.hid hb0
  have HG0_z := Lib.hid g_z
  clear hb0 g_z
  go_enter Tryd.func8, Tryd.ntmps8
  go_wp2_with fail
  refine (H1.out).mono ?_
  rintro e X1 ⟨rfl, hB⟩
  have hb := HB0.out.trans (hB.mono HB0.out.size)
  have g_z := (hB.block (w.heap.size) (Array.getElem?_eq_some_iff.1 HG0_z.out).1).trans HG0_z.out
  have c_z_0 : X1.cell? ⟨w.heap.size, 0, none⟩ = some (.int .i64 off) := cell_of_row X1 _ 0 _ _ _ g_z
  have c_z_1 : X1.cell? ⟨w.heap.size, 1, none⟩ = some (.slice a len cap) := cell_of_row X1 _ 1 _ _ _ g_z
  have lt_z : w.heap.size < X1.heap.size := (Array.getElem?_eq_some_iff.1 g_z).1
  have HB1 := Lib.hid hb
  have HG1_z := Lib.hid g_z
  clear hB hb  g_z HB0 HG0_z H1
  go_wp2_with fail
  refine (H2.out _ HB1.out).mono ?_
  rintro e X2 ⟨rfl, hB⟩
  have hb := HB1.out.trans (hB.mono HB1.out.size)
  have g_z := (hB.block (w.heap.size) (Array.getElem?_eq_some_iff.1 HG1_z.out).1).trans HG1_z.out
  clear c_z_0 c_z_1 lt_z
  have HB2 := Lib.hid hb
  have HG2_z := Lib.hid g_z
  clear hB hb  g_z HB1 HG1_z H2
  go_wp2
  go_ret
  exact ⟨rfl, HB2.out⟩
set_option maxRecDepth 100000 in
set_option maxHeartbeats 4000000 in
theorem plain_early (off t : Int) (a : Option Addr) (len cap : Nat) (R : Nat → Rl) (w : World) (hT : Tabs w) (hR : RulesAt w.heap.size w a len R) (ht : In64 t) (hl : len ≤ 50) (hz : ZoneIs off R len) (h0 : t < 200000) :
    Calls Tryd.prog 8 #[zoneV off a len cap, .int .i64 t] w fun e w' => e = .returned (.bool true) ∧ Below w.heap.size w w' := by
  have hb0 := (Below.refl _ w).alloc (Nat.le_refl _) (.cells #[.int .i64 off, .slice a len cap] 24)
  have g_z := heap_alloc_new w (.cells #[.int .i64 off, .slice a len cap] 24)
  have H1 := Lib.hid (alive_any _ (hT.next hb0))
  have hli : (len : Int) ≤ 50 := by omega
  have hll : len ≤ 1000 := by omega
  have H2 := Lib.hid (fun X (hX : Below w.heap.size w X) => checkZ_any off a len cap R X hll ((hR.next hX).mono hX.size))
  rw [zE_yes hz] at H2
  clear hT hR hl hz hll
  have HB0 := Lib.hid hb0
  have HG0_z := Lib.hid g_z
  clear hb0 g_z
  go_enter Tryd.func8, Tryd.ntmps8
  go_wp2_with fail
  refine (H1.out).mono ?_
  rintro e X1 ⟨rfl, hB⟩
  have hb := HB0.out.trans (hB.mono HB0.out.size)
  have g_z := (hB.block (w.heap.size) (Array.getElem?_eq_some_iff.1 HG0_z.out).1).trans HG0_z.out
  have c_z_0 : X1.cell? ⟨w.heap.size, 0, none⟩ = some (.int .i64 off) := cell_of_row X1 _ 0 _ _ _ g_z
  have c_z_1 : X1.cell? ⟨w.heap.size, 1, none⟩ = some (.slice a len cap) := cell_of_row X1 _ 1 _ _ _ g_z
  have lt_z : w.heap.size < X1.heap.size := (Array.getElem?_eq_some_iff.1 g_z).1
  have HB1 := Lib.hid hb
  have HG1_z := Lib.hid g_z
  clear hB hb  g_z HB0 HG0_z H1
  go_wp2_with fail
  refine (H2.out _ HB1.out).mono ?_
  rintro e X2 ⟨rfl, hB⟩
  have hb := HB1.out.trans (hB.mono HB1.out.size)
  have g_z := (hB.block (w.heap.size) (Array.getElem?_eq_some_iff.1 HG1_z.out).1).trans HG1_z.out
  clear c_z_0 c_z_1 lt_z
  have HB2 := Lib.hid hb
  have HG2_z := Lib.hid g_z
  clear hB hb  g_z HB1 HG1_z H2
  go_wp2
  go_ret
  exact ⟨rfl, HB2.out⟩
set_option maxRecDepth 100000 in
set_option maxHeartbeats 4000000 in
theorem plain_late (off t : Int) (a : Option Addr) (len cap : Nat) (R : Nat → Rl) (w : World) (hT : Tabs w) (hR : RulesAt w.heap.size w a len R) (ht : In64 t) (hl : len ≤ 50) (hz : ZoneIs off R len) (h0 : 137438953472 < t) :
    Calls Tryd.prog 8 #[zoneV off a len cap, .int .i64 t] w fun e w' => e = .returned (.bool true) ∧ Below w.heap.size w w' := by
  have hb0 := (Below.refl _ w).alloc (Nat.le_refl _) (.cells #[.int .i64 off, .slice a len cap] 24)
  have g_z := heap_alloc_new w (.cells #[.int .i64 off, .slice a len cap] 24)
  have H1 := Lib.hid (alive_any _ (hT.next hb0))
  have hli : (len : Int) ≤ 50 := by omega
  have hll : len ≤ 1000 := by omega
  have H2 := Lib.hid (fun X (hX : Below w.heap.size w X) => checkZ_any off a len cap R X hll ((hR.next hX).mono hX.size))
  rw [zE_yes hz] at H2
  have h1 : ¬ t < 200000 := by omega
  clear hT hR hl hz hll
  have HB0 := Lib.hid hb0
  have HG0_z := Lib.hid g_z
  clear hb0 g_z
  go_enter Tryd.func8, Tryd.ntmps8
  go_wp2_with fail
  refine (H1.out).mono ?_
  rintro e X1 ⟨rfl, hB⟩
  have hb := HB0.out.trans (hB.mono HB0.out.size)
  have g_z := (hB.block (w.heap.size) (Array.getElem?_eq_some_iff.1 HG0_z.out).1).trans HG0_z.out
  have c_z_0 : X1.cell? ⟨w.heap.size, 0, none⟩ = some (.int .i64 off) := cell_of_row X1 _ 0 _ _ _ g_z
  have c_z_1 : X1.cell? ⟨w.heap.size, 1, none⟩ = some (.slice a len cap) := cell_of_row X1 _ 1 _ _ _ g_z
  have lt_z : w.heap.size < X1.heap.size := (Array.getElem?_eq_some_iff.1 g_z).1
  have HB1 := Lib.hid hb
  have HG1_z := Lib.hid g_z
  clear hB hb  g_z HB0 HG0_z H1
  go_wp2_with fail
  refine (H2.out _ HB1.out).mono ?_
  rintro e X2 ⟨rfl, hB⟩
  have hb := HB1.out.trans (hB.mono HB1.out.size)
  have g_z := (hB.block (w.heap.size) (Array.getElem?_eq_some_iff.1 HG1_z.out).1).trans HG1_z.out
  clear c_z_0 c_z_1 lt_z
  have HB2 := Lib.hid hb
  have HG2_z := Lib.hid g_z
  clear hB hb  g_z HB1 HG1_z H2
  go_wp2
  go_ret
  exact ⟨rfl, HB2.out⟩
set_option maxRecDepth 100000 in
set_option maxHeartbeats 4000000 in
theorem plain_main (off t : Int) (a : Option Addr) (len cap : Nat) (R : Nat → Rl) (w : World) (hT : Tabs w) (hR : RulesAt w.heap.size w a len R) (ht : In64 t) (hl : len ≤ 50) (hz : ZoneIs off R len) (h0 : 200000 ≤ t) (h1 : t ≤ 137438953472) (y m d : Int) (hd : IsDate ((t + off) / 86400) y m d) (HS : Bool) (hHS : ruleB R len y = HS) :
    Calls Tryd.prog 8 #[zoneV off a len cap, .int .i64 t] w fun e w' => e = .returned (.bool true) ∧ Below w.heap.size w w' := by
  have hb0 := (Below.refl _ w).alloc (Nat.le_refl _) (.cells #[.int .i64 off, .slice a len cap] 24)
  have g_z := heap_alloc_new w (.cells #[.int .i64 off, .slice a len cap] 24)
  have H1 := Lib.hid (alive_any _ (hT.next hb0))
  have hli : (len : Int) ≤ 50 := by omega
  have hll : len ≤ 1000 := by omega
  have H2 := Lib.hid (fun X (hX : Below w.heap.size w X) => checkZ_any off a len cap R X hll ((hR.next hX).mono hX.size))
  rw [zE_yes hz] at H2
  have hoff := hz.1
  have hp := plain_is (R := R) hz.1
  have hRp : ∀ X : World, RulesAt X.heap.size X none 0 R := fun X i hi => absurd hi (Nat.not_lt_zero _)
  have hpo : OffIs off R 0 t := ⟨⟨by omega, by omega⟩, by have := plain_off off R t; unfold offT at this; rw [this]; omega⟩
  have hl2 : t + off < 253402300800 := by omega
  have hpi := plain_insts (R := R) hz.1 hpo hl2
  obtain ⟨q1, q2⟩ := sec_of hd
  obtain ⟨h, hh⟩ : ∃ h, h = (t + off) % 86400 / 3600 := ⟨_, rfl⟩
  obtain ⟨mi, hmi⟩ : ∃ mi, mi = (t + off) % 3600 / 60 := ⟨_, rfl⟩
  obtain ⟨s, hs⟩ : ∃ s, s = (t + off) % 60 := ⟨_, rfl⟩
  have H3 := Lib.hid (fun X (hX : Below w.heap.size w X) => offsetZ_yes off t none 0 0 R X (hRp X) hp (hT.next hX) hpo)
  rw [plain_off] at H3
  have H4 := Lib.hid (fun X (hX : Below w.heap.size w X) => localZ_yes off t none 0 0 R X (hRp X) hp (hT.next hX) hpo (t + off) (by rw [plain_off]) y m d hd)
  rw [plain_x, ← hh, ← hmi, ← hs] at H4
  rw [show ((0 : Int) != 0) = false from rfl] at H4
  rw [← hh, ← hmi, ← hs] at q1 q2
  have H5 := Lib.hid (fun X (hX : Below w.heap.size w X) => instant_any y m d h mi s X (hT.next hX))
  rw [show instV y m d h mi s = t + off by unfold instV; rw [if_pos q1, q2], show momE y m d h mi s = 0 from if_pos q1] at H5
  have H6 := Lib.hid (fun X (hX : Below w.heap.size w X) => instants_yes off none 0 0 R y m d h mi s X (hRp X) hp (hT.next hX) q1)
  rw [q2, hpi] at H6
  have H7 := Lib.hid (fun X (hX : Below w.heap.size w X) => at_yes (t + off) (by omega) hl2 y m d hd X (hT.next hX))
  rw [← hh, ← hmi, ← hs] at H7
  have H8 := Lib.hid (fun X (hX : Below w.heap.size w X) => ofZ_any off a len cap R y X hll ((hR.next hX).mono hX.size))
  rw [show ofB off R len y = HS by rw [show ofB off R len y = ruleB R len y by unfold ofB; rw [if_pos hz], hHS]] at H8
  have hO : OffIs off R len t := ⟨⟨by omega, by omega⟩, by have := offT_x off R len t; have hb := xOf_bounds hz (yearI (t + off)) (t + off); unfold offT at this; rw [this]; omega⟩
  have H9 := Lib.hid (fun X (hX : Below w.heap.size w X) => offsetZ_yes off t a len cap R X ((hR.next hX).mono hX.size) hz (hT.next hX) hO)
  obtain ⟨K, hK⟩ : ∃ K, K = offT off R len t := ⟨_, rfl⟩
  rw [← hK] at H9
  have hKK : HS = true ∨ (HS = false ∧ K = off) := by
    cases HS
    · refine .inr ⟨rfl, ?_⟩
      rw [hK, offT_x, yearI_is hd]
      unfold xOf
      rw [hHS]
      simp
    · exact .inl rfl
  obtain ⟨r, hr⟩ : ∃ r, r = ofR off R len y := ⟨_, rfl⟩
  rw [← hr] at H8
  obtain ⟨f, l, m1, w1, n1, t1, m2, w2, n2, t2, x⟩ := r
  have HKK := Lib.hid hKK
  obtain ⟨o1, o2⟩ := hoff
  clear hT hR hl hz hll hp hRp hpo hpi q1 q2 hh hmi hs hHS hO hK hKK hr ht hd
  have HB0 := Lib.hid hb0
  have HG0_z := Lib.hid g_z
  clear hb0 g_z
  go_enter Tryd.func8, Tryd.ntmps8
  go_wp2_with fail
  refine (H1.out).mono ?_
  rintro e X1 ⟨rfl, hB⟩
  have hb := HB0.out.trans (hB.mono HB0.out.size)
  have g_z := (hB.block (w.heap.size) (Array.getElem?_eq_some_iff.1 HG0_z.out).1).trans HG0_z.out
  have c_z_0 : X1.cell? ⟨w.heap.size, 0, none⟩ = some (.int .i64 off) := cell_of_row X1 _ 0 _ _ _ g_z
  have c_z_1 : X1.cell? ⟨w.heap.size, 1, none⟩ = some (.slice a len cap) := cell_of_row X1 _ 1 _ _ _ g_z
  have lt_z : w.heap.size < X1.heap.size := (Array.getElem?_eq_some_iff.1 g_z).1
  have HB1 := Lib.hid hb
  have HG1_z := Lib.hid g_z
  clear hB hb  g_z HB0 HG0_z H1
  go_wp2_with fail
  refine (H2.out _ HB1.out).mono ?_
  rintro e X2 ⟨rfl, hB⟩
  have hb := HB1.out.trans (hB.mono HB1.out.size)
  have g_z := (hB.block (w.heap.size) (Array.getElem?_eq_some_iff.1 HG1_z.out).1).trans HG1_z.out
  clear c_z_0 c_z_1 lt_z
  have c_z_0 : X2.cell? ⟨w.heap.size, 0, none⟩ = some (.int .i64 off) := cell_of_row X2 _ 0 _ _ _ g_z
  have lt_z : w.heap.size < X2.heap.size := (Array.getElem?_eq_some_iff.1 g_z).1
  have hb_0 := hb.alloc hb.size (.cells #[.int .i64 off, .slice none 0 0] 24)
  have g_z := heap_old g_z (.cells #[.int .i64 off, .slice none 0 0] 24)
  have g_p := heap_alloc_new X2 (.cells #[.int .i64 off, .slice none 0 0] 24)
  have HB2 := Lib.hid hb_0
  have HG2_z := Lib.hid g_z
  have HG2_p := Lib.hid g_p
  clear hB hb hb_0 g_z g_p HB1 HG1_z H2
  go_wp2_with fail
  refine (H3.out _ HB2.out).mono ?_
  rintro e X3 ⟨rfl, hB⟩
  have hb := HB2.out.trans (hB.mono HB2.out.size)
  have g_z := (hB.block (w.heap.size) (Array.getElem?_eq_some_iff.1 HG2_z.out).1).trans HG2_z.out
  have g_p := (hB.block (X2.heap.size) (Array.getElem?_eq_some_iff.1 HG2_p.out).1).trans HG2_p.out
  clear c_z_0 lt_z
  have c_p_0 : X3.cell? ⟨X2.heap.size, 0, none⟩ = some (.int .i64 off) := cell_of_row X3 _ 0 _ _ _ g_p
  have c_p_1 : X3.cell? ⟨X2.heap.size, 1, none⟩ = some (.slice none 0 0) := cell_of_row X3 _ 1 _ _ _ g_p
  have lt_p : X2.heap.size < X3.heap.size := (Array.getElem?_eq_some_iff.1 g_p).1
  have HB3 := Lib.hid hb
  have HG3_z := Lib.hid g_z
  have HG3_p := Lib.hid g_p
  clear hB hb  g_z g_p HB2 HG2_z HG2_p H3
  go_wp2_with fail
  refine (H4.out _ HB3.out).mono ?_
  rintro e X4 ⟨rfl, hB⟩
  have hb := HB3.out.trans (hB.mono HB3.out.size)
  have g_z := (hB.block (w.heap.size) (Array.getElem?_eq_some_iff.1 HG3_z.out).1).trans HG3_z.out
  have g_p := (hB.block (X2.heap.size) (Array.getElem?_eq_some_iff.1 HG3_p.out).1).trans HG3_p.out
  clear c_p_0 c_p_1 lt_p
  have c_p_0 : X4.cell? ⟨X2.heap.size, 0, none⟩ = some (.int .i64 off) := cell_of_row X4 _ 0 _ _ _ g_p
  have c_p_1 : X4.cell? ⟨X2.heap.size, 1, none⟩ = some (.slice none 0 0) := cell_of_row X4 _ 1 _ _ _ g_p
  have lt_p : X2.heap.size < X4.heap.size := (Array.getElem?_eq_some_iff.1 g_p).1
  have hb_0 := hb.alloc hb.size (.cells #[.int .i64 y, .int .i64 m, .int .i64 d, .int .i64 h, .int .i64 mi, .int .i64 s] 44)
  have g_z := heap_old g_z (.cells #[.int .i64 y, .int .i64 m, .int .i64 d, .int .i64 h, .int .i64 mi, .int .i64 s] 44)
  have g_p := heap_old g_p (.cells #[.int .i64 y, .int .i64 m, .int .i64 d, .int .i64 h, .int .i64 mi, .int .i64 s] 44)
  have g_q := heap_alloc_new X4 (.cells #[.int .i64 y, .int .i64 m, .int .i64 d, .int .i64 h, .int .i64 mi, .int .i64 s] 44)
  have HB4 := Lib.hid hb_0
  have HG4_z := Lib.hid g_z
  have HG4_p := Lib.hid g_p
  have HG4_q := Lib.hid g_q
  clear hB hb hb_0 g_z g_p g_q HB3 HG3_z HG3_p H4
  go_wp2_with fail
  refine (H5.out _ HB4.out).mono ?_
  rintro e X5 ⟨rfl, hB⟩
  have hb := HB4.out.trans (hB.mono HB4.out.size)
  have g_z := (hB.block (w.heap.size) (Array.getElem?_eq_some_iff.1 HG4_z.out).1).trans HG4_z.out
  have g_p := (hB.block (X2.heap.size) (Array.getElem?_eq_some_iff.1 HG4_p.out).1).trans HG4_p.out
  have g_q := (hB.block (X4.heap.size) (Array.getElem?_eq_some_iff.1 HG4_q.out).1).trans HG4_q.out
  clear c_p_0 c_p_1 lt_p
  have c_p_0 : X5.cell? ⟨X2.heap.size, 0, none⟩ = some (.int .i64 off) := cell_of_row X5 _ 0 _ _ _ g_p
  have c_p_1 : X5.cell? ⟨X2.heap.size, 1, none⟩ = some (.slice none 0 0) := cell_of_row X5 _ 1 _ _ _ g_p
  have lt_p : X2.heap.size < X5.heap.size := (Array.getElem?_eq_some_iff.1 g_p).1
  have c_q_0 : X5.cell? ⟨X4.heap.size, 0, none⟩ = some (.int .i64 y) := cell_of_row X5 _ 0 _ _ _ g_q
  have c_q_1 : X5.cell? ⟨X4.heap.size, 1, none⟩ = some (.int .i64 m) := cell_of_row X5 _ 1 _ _ _ g_q
  have c_q_2 : X5.cell? ⟨X4.heap.size, 2, none⟩ = some (.int .i64 d) := cell_of_row X5 _ 2 _ _ _ g_q
  have c_q_3 : X5.cell? ⟨X4.heap.size, 3, none⟩ = some (.int .i64 h) := cell_of_row X5 _ 3 _ _ _ g_q
  have c_q_4 : X5.cell? ⟨X4.heap.size, 4, none⟩ = some (.int .i64 mi) := cell_of_row X5 _ 4 _ _ _ g_q
  have c_q_5 : X5.cell? ⟨X4.heap.size, 5, none⟩ = some (.int .i64 s) := cell_of_row X5 _ 5 _ _ _ g_q
  have lt_q : X4.heap.size < X5.heap.size := (Array.getElem?_eq_some_iff.1 g_q).1
  have HB5 := Lib.hid hb
  have HG5_z := Lib.hid g_z
  have HG5_p := Lib.hid g_p
  have HG5_q := Lib.hid g_q
  clear hB hb  g_z g_p g_q HB4 HG4_z HG4_p HG4_q H5
  go_wp2_with fail
  refine (H6.out _ HB5.out).mono ?_
  rintro e X6 ⟨al, cl, rfl, hO, hB⟩
  have hb := HB5.out.trans (hB.mono HB5.out.size)
  have g_z := (hB.block (w.heap.size) (Array.getElem?_eq_some_iff.1 HG5_z.out).1).trans HG5_z.out
  have g_p := (hB.block (X2.heap.size) (Array.getElem?_eq_some_iff.1 HG5_p.out).1).trans HG5_p.out
  have g_q := (hB.block (X4.heap.size) (Array.getElem?_eq_some_iff.1 HG5_q.out).1).trans HG5_q.out
  clear c_p_0 c_p_1 lt_p c_q_0 c_q_1 c_q_2 c_q_3 c_q_4 c_q_5 lt_q
  have c_z_0 : X6.cell? ⟨w.heap.size, 0, none⟩ = some (.int .i64 off) := cell_of_row X6 _ 0 _ _ _ g_z
  have c_z_1 : X6.cell? ⟨w.heap.size, 1, none⟩ = some (.slice a len cap) := cell_of_row X6 _ 1 _ _ _ g_z
  have lt_z : w.heap.size < X6.heap.size := (Array.getElem?_eq_some_iff.1 g_z).1
  obtain ⟨bl, ol, rfl, hbl, hcl⟩ := at64_of_bys hO.bys 0 (by simp)
  simp only [List.getD_cons_zero, Nat.add_zero] at hcl
  have HB6 := Lib.hid hb
  have HG6_z := Lib.hid g_z
  have HG6_p := Lib.hid g_p
  have HG6_q := Lib.hid g_q
  clear hB hb  g_z g_p g_q HB5 HG5_z HG5_p HG5_q H6 hO
  clear HG6_p
  clear HG6_q
  go_wp2_with fail
  refine (H7.out _ HB6.out).mono ?_
  rintro e X7 ⟨rfl, hB⟩
  have hb := HB6.out.trans (hB.mono HB6.out.size)
  have g_z := (hB.block (w.heap.size) (Array.getElem?_eq_some_iff.1 HG6_z.out).1).trans HG6_z.out
  clear c_z_0 c_z_1 lt_z
  have c_z_0 : X7.cell? ⟨w.heap.size, 0, none⟩ = some (.int .i64 off) := cell_of_row X7 _ 0 _ _ _ g_z
  have c_z_1 : X7.cell? ⟨w.heap.size, 1, none⟩ = some (.slice a len cap) := cell_of_row X7 _ 1 _ _ _ g_z
  have lt_z : w.heap.size < X7.heap.size := (Array.getElem?_eq_some_iff.1 g_z).1
  have hb_0 := hb.alloc hb.size (.cells #[.int .i64 y, .int .i64 m, .int .i64 d, .int .i64 h, .int .i64 mi, .int .i64 s] 44)
  have g_z := heap_old g_z (.cells #[.int .i64 y, .int .i64 m, .int .i64 d, .int .i64 h, .int .i64 mi, .int .i64 s] 44)
  have g_q := heap_alloc_new X7 (.cells #[.int .i64 y, .int .i64 m, .int .i64 d, .int .i64 h, .int .i64 mi, .int .i64 s] 44)
  have HB7 := Lib.hid hb_0
  have HG7_z := Lib.hid g_z
  have HG7_q := Lib.hid g_q
  clear hB hb hb_0 g_z g_q HB6 HG6_z H7 hcl hbl
  go_wp2_with fail
  refine (H8.out _ HB7.out).mono ?_
  rintro e X8 ⟨rfl, hB⟩
  have hb := HB7.out.trans (hB.mono HB7.out.size)
  have g_z := (hB.block (w.heap.size) (Array.getElem?_eq_some_iff.1 HG7_z.out).1).trans HG7_z.out
  have g_q := (hB.block (X7.heap.size) (Array.getElem?_eq_some_iff.1 HG7_q.out).1).trans HG7_q.out
  clear c_z_0 c_z_1 lt_z
  have c_z_0 : X8.cell? ⟨w.heap.size, 0, none⟩ = some (.int .i64 off) := cell_of_row X8 _ 0 _ _ _ g_z
  have c_z_1 : X8.cell? ⟨w.heap.size, 1, none⟩ = some (.slice a len cap) := cell_of_row X8 _ 1 _ _ _ g_z
  have lt_z : w.heap.size < X8.heap.size := (Array.getElem?_eq_some_iff.1 g_z).1
  have hb_0 := hb.alloc hb.size (.cells #[.int .i64 f, .int .i64 l, .int .i64 m1, .int .i64 w1, .int .i64 n1, .int .i64 t1, .int .i64 m2, .int .i64 w2, .int .i64 n2, .int .i64 t2, .int .i64 x] 31)
  have g_z := heap_old g_z (.cells #[.int .i64 f, .int .i64 l, .int .i64 m1, .int .i64 w1, .int .i64 n1, .int .i64 t1, .int .i64 m2, .int .i64 w2, .int .i64 n2, .int .i64 t2, .int .i64 x] 31)
  have g_q := heap_old g_q (.cells #[.int .i64 f, .int .i64 l, .int .i64 m1, .int .i64 w1, .int .i64 n1, .int .i64 t1, .int .i64 m2, .int .i64 w2, .int .i64 n2, .int .i64 t2, .int .i64 x] 31)
  have g_r := heap_alloc_new X8 (.cells #[.int .i64 f, .int .i64 l, .int .i64 m1, .int .i64 w1, .int .i64 n1, .int .i64 t1, .int .i64 m2, .int .i64 w2, .int .i64 n2, .int .i64 t2, .int .i64 x] 31)
  have HB8 := Lib.hid hb_0
  have HG8_z := Lib.hid g_z
  have HG8_q := Lib.hid g_q
  have HG8_r := Lib.hid g_r
  clear hB hb hb_0 g_z g_q g_r HB7 HG7_z HG7_q H8
  go_wp2_with fail
  refine (H9.out _ HB8.out).mono ?_
  rintro e X9 ⟨rfl, hB⟩
  have hb := HB8.out.trans (hB.mono HB8.out.size)
  have g_z := (hB.block (w.heap.size) (Array.getElem?_eq_some_iff.1 HG8_z.out).1).trans HG8_z.out
  have g_q := (hB.block (X7.heap.size) (Array.getElem?_eq_some_iff.1 HG8_q.out).1).trans HG8_q.out
  have g_r := (hB.block (X8.heap.size) (Array.getElem?_eq_some_iff.1 HG8_r.out).1).trans HG8_r.out
  clear c_z_0 c_z_1 lt_z
  have HB9 := Lib.hid hb
  have HG9_z := Lib.hid g_z
  have HG9_q := Lib.hid g_q
  have HG9_r := Lib.hid g_r
  clear hB hb  g_z g_q g_r HB8 HG8_z HG8_q HG8_r H9
  rcases HKK.out with rfl | ⟨rfl, rfl⟩
  · go_wp2
    go_ret
    exact ⟨rfl, HB9.out⟩
  · go_wp2
    go_ret
    exact ⟨rfl, HB9.out⟩
theorem zonePlain_any (off : Int) (a : Option Addr) (len cap : Nat) (R : Nat → Rl) (t : Int) (w : World) (hT : Tabs w) (w0 : In64 off ∧ RulesAt w.heap.size w a len R) (w1 : (Lit.int .i64 t).wf = true) :
    Calls Tryd.prog 8 #[zoneV off a len cap, .int .i64 t] w fun e w' => e = .returned (.bool true) ∧ Below w.heap.size w w' := by
  have ht := in64_of w1
  by_cases hl : len ≤ 50
  · by_cases hz : ZoneIs off R len
    · have hoff := hz.1
      by_cases h0 : t < 200000
      · exact plain_early off t a len cap R w hT w0.2 ht hl hz h0
      · by_cases h1 : 137438953472 < t
        · exact plain_late off t a len cap R w hT w0.2 ht hl hz h1
        · obtain ⟨y, m, d, hd⟩ := date_exists ((t + off) / 86400) (by omega) (by omega)
          exact plain_main off t a len cap R w hT w0.2 ht hl hz (by omega) (by omega) y m d hd _ rfl
    · exact plain_bad off t a len cap R w hT w0.2 ht hl hz
  · exact plain_many off t a len cap R w hT w0.2 ht (by omega)
end Go.Proofs.YtobnlcmamnoefaaDoor
