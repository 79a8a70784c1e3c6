/- Contracts of the document's functions on zones: Offset. -/
import Derived.Test.YtobnlcmamnoefaaDoorZEdges
import Derived.Deep.CutBlock
import Derived.Deep.DeepCutAuto
set_option linter.unusedVariables false
set_option linter.unusedSimpArgs false
namespace Go.Proofs.YtobnlcmamnoefaaDoor
open Go.RowKit Go.Shelf
/-- Is it summer at standard time s, by changes at V1 and V2? -/
def sumP (V1 V2 s : Int) : Prop := (V1 < V2 ∧ V1 ≤ s ∧ s < V2) ∨ (V2 < V1 ∧ (s < V2 ∨ V1 ≤ s))
instance (V1 V2 s : Int) : Decidable (sumP V1 V2 s) := by unfold sumP; infer_instance
set_option maxRecDepth 100000 in
set_option maxHeartbeats 4000000 in
theorem roffset_walk (off t : Int) (a : Option Addr) (len cap : Nat) (R : Nat → Rl) (w : World) (hl : len ≤ 1000) (hR : RulesAt w.heap.size w a len R) (hz : ZoneIs off R len) (h0 : -100000 ≤ t) (h1 : t ≤ 253402400800) (s : Int) (hs : s = t + off) (s0 : 0 ≤ s) (s1 : s < 253402300800)
    (y mo d : Int) (hd : IsDate (s / 86400) y mo d) (V1 V2 : Int) (hasB SB : Bool) (N : Int)
    (HE : ∀ X, RulesAt X.heap.size X a len R → Calls Tryd.prog 15 #[zoneV off a len cap, .int .i64 y] X fun e w' => e = .returned (.tuple #[.int .i64 V1, .int .i64 V2, .bool hasB]) ∧ Below X.heap.size X w')
    (hSB : SB = (hasB && decide (sumP V1 V2 s)))
    (FS : (SB = true ∧ ∃ (k b o : Nat) (r : Rl), k < len ∧ ruleI R len y = k ∧ a = some ⟨b, o, none⟩ ∧ b < w.heap.size ∧ RlAt w b (o + k * 11) r ∧ N = off + r.x ∧ 1 ≤ r.x ∧ r.x ≤ 7200) ∨ (SB = false ∧ N = off)) :
    Calls Tryd.prog 16 #[zoneV off a len cap, .int .i64 t] w fun e w' => e = .returned (if 253402300800 ≤ t + N then .tuple #[.int .i64 0, .int .i64 60] else .tuple #[.int .i64 N, .int .i64 0]) ∧ Below w.heap.size w w' := by
  have hb0 := (Below.refl _ w).alloc (Nat.le_refl _) (.cells #[.int .i64 off, .slice a len cap] 24)
  have hr := heap_alloc_new w (.cells #[.int .i64 off, .slice a len cap] 24)
  have HRW := Lib.hid (show ∀ X, Below w.heap.size w X → RulesAt X.heap.size X a len R from fun X hX => (hR.next hX).mono hX.size)
  have HM := Lib.hid (show ∀ X, RulesAt X.heap.size X a len R → Calls Tryd.prog 9 #[zoneV off a len cap] X fun e w' => e = .returned (.bool true) ∧ Below X.heap.size X w' from fun X hX => by
    have := rmayZ_any off a len cap R X hl hX
    rw [decide_eq_true hz] at this
    exact this)
  have HRU := Lib.hid (show ∀ X, RulesAt X.heap.size X a len R → Calls Tryd.prog 14 #[zoneV off a len cap, .int .i64 y] X fun e w' => e = .returned (.int .i64 (ruleI R len y)) ∧ Below X.heap.size X w' from fun X hX => rrule_any off a len cap R y X hl hX)
  have HO := Lib.hid (fun X => rof_is (s / 86400) y mo d hd X)
  have HHE := Lib.hid HE
  have HSB := Lib.hid hSB
  have HFS := Lib.hid FS
  have HB0 := Lib.hid hb0
  have G0 := Lib.hid hr
  have o0 := hz.1.1
  have o1 := hz.1.2
  have hN : -50400 ≤ N ∧ N ≤ 57600 := by
    rcases FS with ⟨_, k, b, o, r, _, _, _, _, _, h, h2, h3⟩ | ⟨_, h⟩ <;> omega
  have q0 : s.tdiv 86400 = s / 86400 := Int.tdiv_eq_ediv_of_nonneg s0
  have HS := Lib.hid hs
  have hse : t + off = s := hs.symm
  have HSS := Lib.hid (And.intro s0 s1)
  obtain ⟨RV, hrv⟩ : ∃ RV, RV = (if 253402300800 ≤ t + N then Value.tuple #[.int .i64 0, .int .i64 60] else .tuple #[.int .i64 N, .int .i64 0]) := ⟨_, rfl⟩
  rw [← hrv]
  have HRV := Lib.hid hrv
  clear hb0 hr hR hz hl hd HE hSB FS hs hrv
  go_enter Tryd.func16, Tryd.ntmps16
  go_wp2_with fail
  refine (HM.out _ (HRW.out _ HB0.out)).mono ?_
  rintro e W1 ⟨rfl, hB⟩
  have hb1 := HB0.out.trans (hB.mono HB0.out.size)
  have g1 := (hB.block w.heap.size (Array.getElem?_eq_some_iff.1 G0.out).1).trans G0.out
  have HB1 := Lib.hid hb1
  have G1 := Lib.hid g1
  have c0 : W1.cell? ⟨w.heap.size, 0, none⟩ = some (.int .i64 off) := cell_of_row W1 _ 0 _ _ _ g1
  have c1 : W1.cell? ⟨w.heap.size, 1, none⟩ = some (.slice a len cap) := cell_of_row W1 _ 1 _ _ _ g1
  clear hB hb1 g1 HB0 G0
  go_wp2_with (first | (go_at_call 19; refine (HO.out _).mono ?_; rintro e w' ⟨rfl, rfl⟩) | fail)
  refine (HHE.out _ (HRW.out _ HB1.out)).mono ?_
  rintro e W2 ⟨rfl, hB⟩
  have hb2 := HB1.out.trans (hB.mono HB1.out.size)
  have g2 := (hB.block w.heap.size (Array.getElem?_eq_some_iff.1 G1.out).1).trans G1.out
  have HB2 := Lib.hid hb2
  have G2 := Lib.hid g2
  clear hB hb2 c0 c1 HB1 G1
  have c0 : W2.cell? ⟨w.heap.size, 0, none⟩ = some (.int .i64 off) := cell_of_row W2 _ 0 _ _ _ g2
  have c1 : W2.cell? ⟨w.heap.size, 1, none⟩ = some (.slice a len cap) := cell_of_row W2 _ 1 _ _ _ g2
  clear g2
  go_upto_region 11 with fail
  go_cut [15] from 52 to 82 (fun c wx => c = .bool SB ∧ wx = W2)
  case first =>
    have hSB := HSB.out
    have e : decide (sumP V1 V2 s) = ((decide (V1 < V2) && (decide (V1 ≤ s) && decide (s < V2))) || (decide (V2 < V1) && (decide (s < V2) || decide (V1 ≤ s)))) := by
      rw [Bool.eq_iff_iff, decide_eq_true_iff]; simp [sumP]
    rw [e] at hSB
    clear e HRV HM HRU HO HHE HFS HRW HB2 G2 hN
    cases hasB
    · simp only [Bool.false_and] at hSB
      subst hSB
      go_wp2_with fail
      go_meet
      exact ⟨rfl, rfl⟩
    · simp only [Bool.true_and] at hSB
      by_cases b1 : V1 < V2
      · have b2 : ¬ V2 < V1 := by omega
        have g1 := decide_eq_true b1
        have g2 := decide_eq_false b2
        rcases Int.lt_or_le s V1 with b3 | b3
        · have g3 : decide (V1 ≤ s) = false := decide_eq_false (by omega)
          simp only [g1, g2, g3, Bool.true_and, Bool.false_and, Bool.or_false, Bool.and_false] at hSB
          subst hSB
          go_wp2_with fail
          go_meet
          exact ⟨rfl, rfl⟩
        · have g3 : decide (V1 ≤ s) = true := decide_eq_true b3
          rcases Int.lt_or_le s V2 with b4 | b4
          · have g4 : decide (s < V2) = true := decide_eq_true b4
            simp only [g1, g2, g3, g4, Bool.true_and, Bool.false_and, Bool.or_false, Bool.and_false] at hSB
            subst hSB
            go_wp2_with fail
            go_meet
            exact ⟨rfl, rfl⟩
          · have g4 : decide (s < V2) = false := decide_eq_false (by omega)
            simp only [g1, g2, g3, g4, Bool.true_and, Bool.false_and, Bool.or_false, Bool.and_false] at hSB
            subst hSB
            go_wp2_with fail
            go_meet
            exact ⟨rfl, rfl⟩
      · have g1 := decide_eq_false b1
        by_cases b2 : V2 < V1
        · have g2 := decide_eq_true b2
          rcases Int.lt_or_le s V2 with b4 | b4
          · have g4 : decide (s < V2) = true := decide_eq_true b4
            simp only [g1, g2, g4, Bool.true_and, Bool.false_and, Bool.false_or, Bool.true_or] at hSB
            subst hSB
            go_wp2_with fail
            go_meet
            exact ⟨rfl, rfl⟩
          · have g4 : decide (s < V2) = false := decide_eq_false (by omega)
            rcases Int.lt_or_le s V1 with b3 | b3
            · have g3 : decide (V1 ≤ s) = false := decide_eq_false (by omega)
              simp only [g1, g2, g3, g4, Bool.true_and, Bool.false_and, Bool.false_or] at hSB
              subst hSB
              go_wp2_with fail
              go_meet
              exact ⟨rfl, rfl⟩
            · have g3 : decide (V1 ≤ s) = true := decide_eq_true b3
              simp only [g1, g2, g3, g4, Bool.true_and, Bool.false_and, Bool.false_or] at hSB
              subst hSB
              go_wp2_with fail
              go_meet
              exact ⟨rfl, rfl⟩
        · have g2 := decide_eq_false b2
          simp only [g1, g2, Bool.false_and, Bool.or_false] at hSB
          subst hSB
          go_wp2_with fail
          go_meet
          exact ⟨rfl, rfl⟩
  obtain ⟨rfl, hwx⟩ := hcut
  subst wc
  go_upto_if 85 with fail
  go_cut [16] from 86 to 95 (fun c wx => c = .int .i64 N ∧ Below w.heap.size w wx)
  case first =>
    rcases HFS.out with ⟨rfl, k, b, o, r, hk, hi, rfl, hb, hrl, rfl, x1, x2⟩ | ⟨rfl, rfl⟩
    · have HRL := Lib.hid hrl
      have hki : (k : Int) < len := by omega
      have hrl2 := hrl.below hb HB2.out
      have r10 := hrl2.2.2.2.2.2.2.2.2.2.2
      obtain ⟨x, hx⟩ : ∃ x, x = r.x := ⟨_, rfl⟩
      rw [← hx] at x1 x2 r10
      have HRC := Lib.hid (HRU.out _ (HRW.out _ HB2.out.drew))
      rw [hi] at HRC
      have HX := Lib.hid hx
      have HWR := Lib.hid (show IntKind.i64.wrap (off + x) = off + x from by simp only [IntKind.wrap_i64, wrap64]; omega)
      have hl1 : w.heap.size < W2.drew.heap.size := (Array.getElem?_eq_some_iff.1 G2.out).1
      have hbd := HB2.out.drew
      clear hi hk hrl hrl2 hx HRV HM HRU HO HHE HFS HRW HSB hN
      go_wp2_with fail
      go_region_held3 (fun w' => w'.cell? ⟨w.heap.size, 0, none⟩ = some (.int .i64 off) ∧ w'.cell? ⟨w.heap.size, 1, none⟩ = some (.slice (some ⟨b, o, none⟩) len cap) ∧ w'.cell? ⟨b, o + k * 11 + 10, none⟩ = some (.int .i64 x))
        (first | exact ⟨c0, c1, r10⟩ | exact (show _ ∧ _ from ⟨cell_of_row w2' _ 0 _ _ _ q2, cell_of_row w2' _ 1 _ _ _ q2, by have := (HRL.out.below hb b2).2.2.2.2.2.2.2.2.2.2; rw [← HX.out] at this; exact this⟩) | go_keep)
        (first
          | (go_at_call 14; ((with_reducible refine HRC.out.mono ?_); rintro e w2' ⟨rfl, hB2⟩; have q2 := (hB2.block w.heap.size hl1).trans G2.out; have b2 := hbd.trans (hB2.mono hbd.size); clear hB2)))
      go_wp2_with fail
      go_meet
      exact ⟨by rw [← HX.out, HWR.out], b2⟩
    · go_wp2_with fail
      go_meet
      exact ⟨rfl, HB2.out⟩
  obtain ⟨rfl, hbx⟩ := hcut
  by_cases he : 253402300800 ≤ t + N
  · go_wp2
    go_ret2
    rw [HRV.out, if_pos he]
    exact ⟨rfl, hbx⟩
  · go_wp2
    go_ret2
    rw [HRV.out, if_neg (by omega)]
    exact ⟨rfl, hbx⟩
def nOf (off : Int) (R : Nat → Rl) (len : Nat) (y s : Int) : Int := match (List.range len).find? (fun i => decide ((R i).of y)) with
  | some i => if sumP (onOf (R i) y) (offOf (R i) y) s then off + (R i).x else off
  | none => off
theorem nOf_some {off : Int} {R : Nat → Rl} {len : Nat} {y s : Int} {k : Nat} (hi : ruleI R len y = k) : nOf off R len y s = if sumP (onOf (R k) y) (offOf (R k) y) s then off + (R k).x else off := by
  unfold ruleI at hi
  unfold nOf
  split at hi
  · rename_i i h
    rw [h]
    have : i = k := by omega
    subst this
    rfl
  · omega
theorem nOf_none {off : Int} {R : Nat → Rl} {len : Nat} {y s : Int} (hi : ruleI R len y = -1) : nOf off R len y s = off := by
  unfold ruleI at hi
  unfold nOf
  split at hi
  · omega
  · rename_i h; rw [h]
theorem roffset_in (off t : Int) (a : Option Addr) (len cap : Nat) (R : Nat → Rl) (w : World) (hR : RulesAt w.heap.size w a len R) (hz : ZoneIs off R len) (h0 : -100000 ≤ t) (h1 : t ≤ 253402400800) (s0 : 0 ≤ t + off) (s1 : t + off < 253402300800)
    (y mo d : Int) (hd : IsDate ((t + off) / 86400) y mo d) :
    Calls Tryd.prog 16 #[zoneV off a len cap, .int .i64 t] w fun e w' => e = .returned (if 253402300800 ≤ t + nOf off R len y (t + off) then .tuple #[.int .i64 0, .int .i64 60] else .tuple #[.int .i64 (nOf off R len y (t + off)), .int .i64 0]) ∧ Below w.heap.size w w' := by
  have hl : len ≤ 1000 := by have := hz.2.1; omega
  rcases rule_cases R len y with ⟨k, hk, hi, hy⟩ | hi
  · have hrz := hz.2.2 k hk
    obtain ⟨b, o, ha, hb, hrl⟩ := hR k hk
    refine roffset_walk off t a len cap R w hl hR hz h0 h1 (t + off) rfl s0 s1 y mo d hd (onOf (R k) y) (offOf (R k) y) true (decide (sumP (onOf (R k) y) (offOf (R k) y) (t + off))) _
      (fun X hX => redges_yes off a len cap R y X hl hX k hk hi hrz hy) (by simp) ?_
    rw [nOf_some hi]
    by_cases hs : sumP (onOf (R k) y) (offOf (R k) y) (t + off)
    · rw [if_pos hs, decide_eq_true hs]
      exact .inl ⟨rfl, k, b, o, R k, hk, hi, ha, hb, hrl, rfl, hrz.2.1.1, hrz.2.1.2⟩
    · rw [if_neg hs, decide_eq_false hs]
      exact .inr ⟨rfl, rfl⟩
  · rw [nOf_none hi]
    exact roffset_walk off t a len cap R w hl hR hz h0 h1 (t + off) rfl s0 s1 y mo d hd 0 0 false false off (fun X hX => redges_no off a len cap R y X hl hX hi) (by simp) (.inr ⟨rfl, rfl⟩)
end Go.Proofs.YtobnlcmamnoefaaDoor
