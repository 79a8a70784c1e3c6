/- The statements' own small functions: europe, when, alive; Local and Offset, whole. -/
import Derived.Test.YtobnlcmamnoefaaDoorYOffs
import Derived.Test.YtobnlcmamnoefaaDoorKDays
set_option linter.unusedVariables false
set_option linter.unusedSimpArgs false
namespace Go.Proofs.YtobnlcmamnoefaaDoor
open Go.RowKit Go.Shelf
section
variable (off t : Int) (a : Option Addr) (len cap : Nat) (R : Nat → Rl) (w : World)
theorem localZ_yes (hR : RulesAt w.heap.size w a len R) (hz : ZoneIs off R len) (hT : Tabs w) (h : OffIs off R len t) (L : Int) (hL : L = t + offT off R len t) (y m d : Int) (hd : IsDate (L / 86400) y m d) :
    Calls Tryd.prog 17 #[zoneV off a len cap, .int .i64 t] w fun e w' => e = .returned (.tuple #[momV y m d (L % 86400 / 3600) (L % 3600 / 60) (L % 60), .bool (xOf R len (yearI (t + off)) (t + off) != 0), .int .i64 0]) ∧ Below w.heap.size w w' :=
  localZ_walk off t a len cap R w hR y m d _ _ _ _ _ (fun X hX => localOf_yes off t a len cap R X ((hR.next hX).mono hX.size) hz (hT.next hX) h L hL y m d hd)
theorem localZ_no (ht : In64 t) (hR : RulesAt w.heap.size w a len R) (hz : ZoneIs off R len) (hT : Tabs w) (h : ¬ OffIs off R len t) :
    Calls Tryd.prog 17 #[zoneV off a len cap, .int .i64 t] w fun e w' => e = .returned (.tuple #[momV 0 0 0 0 0 0, .bool false, .int .i64 60]) ∧ Below w.heap.size w w' :=
  localZ_walk off t a len cap R w hR 0 0 0 0 0 0 0 60 (fun X hX => localOf_no off t a len cap R X ht ((hR.next hX).mono hX.size) hz (hT.next hX) h)
theorem localZ_bad (hl : len ≤ 1000) (hR : RulesAt w.heap.size w a len R) (hz : ¬ ZoneIs off R len) :
    Calls Tryd.prog 17 #[zoneV off a len cap, .int .i64 t] w fun e w' => e = .returned (.tuple #[momV 0 0 0 0 0 0, .bool false, .int .i64 70]) ∧ Below w.heap.size w w' :=
  localZ_walk off t a len cap R w hR 0 0 0 0 0 0 0 70 (fun X hX => localOf_bad off t a len cap R X hl ((hR.next hX).mono hX.size) hz)
theorem offsetZ_yes (hR : RulesAt w.heap.size w a len R) (hz : ZoneIs off R len) (hT : Tabs w) (h : OffIs off R len t) :
    Calls Tryd.prog 13 #[zoneV off a len cap, .int .i64 t] w fun e w' => e = .returned (.tuple #[.int .i64 (offT off R len t), .int .i64 0]) ∧ Below w.heap.size w w' := by
  have hx := offT_x off R len t
  have hb := xOf_bounds hz (yearI (t + off)) (t + off)
  obtain ⟨⟨o1, o2⟩, o3⟩ := id h
  have o4 : t + offT off R len t < 253402300800 := o3
  have hzz := hz.1
  obtain ⟨y, m, d, hd⟩ := date_exists ((t + offT off R len t) / 86400) (by omega) (by omega)
  exact offsetZ_walk off t a len cap R w hR y m d _ _ _ _ 0 _ (fun X hX => localOf_yes off t a len cap R X ((hR.next hX).mono hX.size) hz (hT.next hX) h _ rfl y m d hd) (.inl ⟨rfl, hzz, hb, hx⟩)
theorem offsetZ_no (ht : In64 t) (hR : RulesAt w.heap.size w a len R) (hz : ZoneIs off R len) (hT : Tabs w) (h : ¬ OffIs off R len t) :
    Calls Tryd.prog 13 #[zoneV off a len cap, .int .i64 t] w fun e w' => e = .returned (.tuple #[.int .i64 0, .int .i64 60]) ∧ Below w.heap.size w w' :=
  offsetZ_walk off t a len cap R w hR 0 0 0 0 0 0 0 60 0 (fun X hX => localOf_no off t a len cap R X ht ((hR.next hX).mono hX.size) hz (hT.next hX) h) (.inr (.inl ⟨rfl, rfl⟩))
theorem offsetZ_bad (hl : len ≤ 1000) (hR : RulesAt w.heap.size w a len R) (hz : ¬ ZoneIs off R len) :
    Calls Tryd.prog 13 #[zoneV off a len cap, .int .i64 t] w fun e w' => e = .returned (.tuple #[.int .i64 0, .int .i64 70]) ∧ Below w.heap.size w w' :=
  offsetZ_walk off t a len cap R w hR 0 0 0 0 0 0 0 70 0 (fun X hX => localOf_bad off t a len cap R X hl ((hR.next hX).mono hX.size) hz) (.inr (.inr ⟨rfl, rfl⟩))
end
def eurR : Rl := ⟨1996, 9999, 3, 7, -1, 120, 10, 7, -1, 120, 3600⟩
def eur (_ : Nat) : Rl := eurR
theorem eur_is : ZoneIs 3600 eur 1 := by decide +kernel
set_option maxRecDepth 100000 in
theorem europe_any (w : World) :
    Calls Tryd.prog 25 #[] w fun e w' => e = .returned (zoneV 3600 (some ⟨w.heap.size + 1, 0, none⟩) 1 1) ∧ w'.heap[w.heap.size + 1]? = some (.cells #[.int .i64 1996, .int .i64 9999, .int .i64 3, .int .i64 7, .int .i64 (-1), .int .i64 120, .int .i64 10, .int .i64 7, .int .i64 (-1), .int .i64 120, .int .i64 3600] 31 (0, 0)) ∧ Below w.heap.size w w' := by
  go_enter Tryd.func25, Tryd.ntmps25
  go_wp2
  exact bodyPost_ret (v := zoneV 3600 (some ⟨w.heap.size + 1, 0, none⟩) 1 1) (by simp [results, Tryd.results25, go_sem, zoneV]) rfl ⟨rfl, by
    have := heap_alloc_new (w.alloc (.cells #[.int .i64 3600, .slice (some ⟨w.heap.size + 1, 0, none⟩) 1 1] 24)) (.cells #[.int .i64 1996, .int .i64 9999, .int .i64 3, .int .i64 7, .int .i64 (-1), .int .i64 120, .int .i64 10, .int .i64 7, .int .i64 (-1), .int .i64 120, .int .i64 3600] 31)
    rw [World.size_alloc] at this
    exact this, ((Below.refl _ w).alloc (Nat.le_refl _) _).alloc (by simp) _⟩
theorem eur_rules {W : World} {b : Nat} (h : W.heap[b]? = some (.cells #[.int .i64 1996, .int .i64 9999, .int .i64 3, .int .i64 7, .int .i64 (-1), .int .i64 120, .int .i64 10, .int .i64 7, .int .i64 (-1), .int .i64 120, .int .i64 3600] 31 (0, 0))) :
    RulesAt W.heap.size W (some ⟨b, 0, none⟩) 1 eur := by
  intro i hi
  obtain rfl : i = 0 := by omega
  exact ⟨b, 0, rfl, (Array.getElem?_eq_some_iff.1 h).1, cells_rule (r := eurR) h⟩
theorem when_any (y m d h mi s : Int) (hm : MomIs y m d h mi s) (w : World) (hT : Tabs w) :
    Calls Tryd.prog 26 #[.int .i64 y, .int .i64 m, .int .i64 d, .int .i64 h, .int .i64 mi, .int .i64 s] w fun e w' => e = .returned (.int .i64 (secOf y m d h mi s)) ∧ Below w.heap.size w w' := by
  have H1 := Lib.hid (fun X (hX : Below w.heap.size w X) => instant_any y m d h mi s X (hT.next hX))
  rw [show instV y m d h mi s = secOf y m d h mi s from if_pos hm, show momE y m d h mi s = 0 from if_pos hm] at H1
  have HB := Lib.hid (Below.refl w.heap.size w)
  clear hT hm
  go_enter Tryd.func26, Tryd.ntmps26
  go_wp2_with (first | (go_at_call 28; refine (H1.out _ HB.out).mono ?_; rintro e w' ⟨rfl, hB⟩) | fail)
  go_ret
  exact ⟨rfl, hB⟩
theorem alive_t1 : OffIs 3600 eur 1 (secOf 2026 3 29 0 59 59) ∧ offT 3600 eur 1 (secOf 2026 3 29 0 59 59) = 3600 ∧ xOf eur 1 (yearI (secOf 2026 3 29 0 59 59 + 3600)) (secOf 2026 3 29 0 59 59 + 3600) = 0 := by decide +kernel
theorem alive_t2 : OffIs 3600 eur 1 (secOf 2026 3 29 1 0 0) ∧ offT 3600 eur 1 (secOf 2026 3 29 1 0 0) = 7200 ∧ xOf eur 1 (yearI (secOf 2026 3 29 1 0 0 + 3600)) (secOf 2026 3 29 1 0 0 + 3600) = 3600 := by decide +kernel
theorem alive_d1 : IsDate ((secOf 2026 3 29 0 59 59 + 3600) / 86400) 2026 3 29 ∧ (secOf 2026 3 29 0 59 59 + 3600) % 86400 / 3600 = 1 ∧ (secOf 2026 3 29 0 59 59 + 3600) % 3600 / 60 = 59 ∧ (secOf 2026 3 29 0 59 59 + 3600) % 60 = 59 := by decide +kernel
theorem alive_d2 : IsDate ((secOf 2026 3 29 1 0 0 + 7200) / 86400) 2026 3 29 ∧ (secOf 2026 3 29 1 0 0 + 7200) % 86400 / 3600 = 3 ∧ (secOf 2026 3 29 1 0 0 + 7200) % 3600 / 60 = 0 ∧ (secOf 2026 3 29 1 0 0 + 7200) % 60 = 0 := by decide +kernel
theorem alive_local1 (b : Nat) (w : World) (hT : Tabs w) (h : w.heap[b]? = some (.cells #[.int .i64 1996, .int .i64 9999, .int .i64 3, .int .i64 7, .int .i64 (-1), .int .i64 120, .int .i64 10, .int .i64 7, .int .i64 (-1), .int .i64 120, .int .i64 3600] 31 (0, 0))) :
    Calls Tryd.prog 17 #[zoneV 3600 (some ⟨b, 0, none⟩) 1 1, .int .i64 (secOf 2026 3 29 0 59 59)] w fun e w' => e = .returned (.tuple #[momV 2026 3 29 1 59 59, .bool false, .int .i64 0]) ∧ Below w.heap.size w w' := by
  obtain ⟨e1, e2, e3⟩ := alive_t1
  obtain ⟨d1, d2, d3, d4⟩ := alive_d1
  have := localZ_yes 3600 (secOf 2026 3 29 0 59 59) (some ⟨b, 0, none⟩) 1 1 eur w (eur_rules h) eur_is hT e1 (secOf 2026 3 29 0 59 59 + 3600) (by rw [e2]) 2026 3 29 d1
  rw [d2, d3, d4, e3] at this
  exact this
theorem alive_local2 (b : Nat) (w : World) (hT : Tabs w) (h : w.heap[b]? = some (.cells #[.int .i64 1996, .int .i64 9999, .int .i64 3, .int .i64 7, .int .i64 (-1), .int .i64 120, .int .i64 10, .int .i64 7, .int .i64 (-1), .int .i64 120, .int .i64 3600] 31 (0, 0))) :
    Calls Tryd.prog 17 #[zoneV 3600 (some ⟨b, 0, none⟩) 1 1, .int .i64 (secOf 2026 3 29 1 0 0)] w fun e w' => e = .returned (.tuple #[momV 2026 3 29 3 0 0, .bool true, .int .i64 0]) ∧ Below w.heap.size w w' := by
  obtain ⟨e1, e2, e3⟩ := alive_t2
  obtain ⟨d1, d2, d3, d4⟩ := alive_d2
  have := localZ_yes 3600 (secOf 2026 3 29 1 0 0) (some ⟨b, 0, none⟩) 1 1 eur w (eur_rules h) eur_is hT e1 (secOf 2026 3 29 1 0 0 + 7200) (by rw [e2]) 2026 3 29 d1
  rw [d2, d3, d4, e3] at this
  exact this
end Go.Proofs.YtobnlcmamnoefaaDoor
