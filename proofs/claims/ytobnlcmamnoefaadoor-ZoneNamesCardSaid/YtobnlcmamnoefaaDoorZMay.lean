/- Contracts of the document's functions on zones: May. -/
import Derived.Test.YtobnlcmamnoefaaDoorZRule
set_option linter.unusedVariables false
set_option linter.unusedSimpArgs false
namespace Go.Proofs.YtobnlcmamnoefaaDoor
open Go.RowKit Go.Shelf
def RlIs (r : Rl) : Prop := (1970 ≤ r.f ∧ r.l ≤ 9999 ∧ r.f ≤ r.l) ∧ (1 ≤ r.x ∧ r.x ≤ 7200) ∧ ChIs r.m1 r.w1 r.n1 r.t1 ∧ ChIs r.m2 r.w2 r.n2 r.t2
instance (r : Rl) : Decidable (RlIs r) := by unfold RlIs; infer_instance
def ZoneIs (off : Int) (R : Nat → Rl) (len : Nat) : Prop := (-50400 ≤ off ∧ off ≤ 50400) ∧ len ≤ 20 ∧ ∀ i, i < len → RlIs (R i)
instance (off : Int) (R : Nat → Rl) (len : Nat) : Decidable (ZoneIs off R len) := by unfold ZoneIs; infer_instance
set_option maxRecDepth 100000 in
set_option maxHeartbeats 4000000 in
theorem rmayZ_any (off : Int) (a : Option Addr) (len cap : Nat) (R : Nat → Rl) (w : World) (hl : len ≤ 1000) (hR : RulesAt w.heap.size w a len R) :
    Calls Tryd.prog 9 #[zoneV off a len cap] w fun e w' => e = .returned (.bool (decide (ZoneIs off R len))) ∧ Below w.heap.size w w' := by
  have hb0 := (Below.refl _ w).alloc (Nat.le_refl _) (.cells #[.int .i64 off, .slice a len cap] 24)
  have hr := heap_alloc_new w (.cells #[.int .i64 off, .slice a len cap] 24)
  have HR := Lib.hid hR
  have HB := Lib.hid hb0
  have G := Lib.hid hr
  have hli : (len : Int) ≤ 1000 := by omega
  clear hb0 hr hR hl
  obtain ⟨RV, hRV⟩ : ∃ b, b = decide (ZoneIs off R len) := ⟨_, rfl⟩
  rw [← hRV]
  have HV := Lib.hid hRV
  clear hRV
  by_cases c0 : -50400 ≤ off
  · by_cases c1 : off ≤ 50400
    · by_cases c2 : len ≤ 20
      · have c2i : (len : Int) ≤ 20 := by omega
        have HC := Lib.hid (And.intro c0 (And.intro c1 c2))
        clear c2
        go_enter Tryd.func9, Tryd.ntmps9
        go_wp2
        obtain ⟨W0, hW0⟩ : ∃ X, X = w.alloc (.cells #[.int .i64 off, .slice a len cap] 24) := ⟨_, rfl⟩
        rw [← hW0] at HB G ⊢
        clear hW0 c0 c1 hli
        go_loopw [3] (fun i wr => ∃ k : Nat, k ≤ len ∧ i = .int .i64 k ∧ (∀ j, j < k → RlIs (R j)) ∧ Below w.heap.size w wr ∧ wr.heap[w.heap.size]? = some (.cells #[.int .i64 off, .slice a len cap] 24)) (fun i _ => (len - intOf i).toNat)
        case atStart => exact ⟨0, Nat.zero_le _, rfl, fun j hj => absurd hj (Nat.not_lt_zero _), HB.out, G.out⟩
        case round =>
          obtain ⟨k, hk, rfl, hn, hbw, hgw⟩ := hrel
          have HN := Lib.hid hn
          have c1 : wr.cell? ⟨w.heap.size, 1, none⟩ = some (.slice a len cap) := cell_of_row wr _ 1 _ _ _ hgw
          have HBW := Lib.hid hbw
          have HGW := Lib.hid hgw
          have hlw : w.heap.size < wr.heap.size := (Array.getElem?_eq_some_iff.1 hgw).1
          clear hn hbw hgw HB G
          by_cases hlt : k < len
          · obtain ⟨b, o, rfl, hb, hrl⟩ := HR.out.next HBW.out k hlt
            have hlti : (k : Int) < len := by omega
            obtain ⟨r, hrk⟩ : ∃ r, r = R k := ⟨_, rfl⟩
            rw [← hrk] at hrl
            have HK := Lib.hid hrk
            clear hrk
            obtain ⟨f, l, m1, w1, n1, t1, m2, w2, n2, t2, x⟩ := r
            obtain ⟨r0, r1, r2, r3, r4, r5, r6, r7, r8, r9, r10⟩ := hrl
            simp only [] at r0 r1 r2 r3 r4 r5 r6 r7 r8 r9 r10
            have hbx := HBW.out.alloc HBW.out.size (.cells #[.int .i64 f, .int .i64 l, .int .i64 m1, .int .i64 w1, .int .i64 n1, .int .i64 t1, .int .i64 m2, .int .i64 w2, .int .i64 n2, .int .i64 t2, .int .i64 x] 31)
            have hgx := heap_old HGW.out (.cells #[.int .i64 f, .int .i64 l, .int .i64 m1, .int .i64 w1, .int .i64 n1, .int .i64 t1, .int .i64 m2, .int .i64 w2, .int .i64 n2, .int .i64 t2, .int .i64 x] 31)
            have hnx := heap_alloc_new wr (.cells #[.int .i64 f, .int .i64 l, .int .i64 m1, .int .i64 w1, .int .i64 n1, .int .i64 t1, .int .i64 m2, .int .i64 w2, .int .i64 n2, .int .i64 t2, .int .i64 x] 31)
            have HBX := Lib.hid hbx
            have HGX := Lib.hid hgx
            have HNX := Lib.hid hnx
            clear hbx hgx hnx
            have HC1 := Lib.hid (fun X => rchange_any m1 w1 n1 t1 X)
            have HC2 := Lib.hid (fun X => rchange_any m2 w2 n2 t2 X)
            have hno : ∀ q : ¬ RlIs ⟨f, l, m1, w1, n1, t1, m2, w2, n2, t2, x⟩, false = RV := fun q => by
              rw [HV.out]
              exact (decide_eq_false (fun z => q (by rw [HK.out]; exact z.2.2 k hlt))).symm
            have HNO := Lib.hid hno
            clear hno
            by_cases d1 : 1970 ≤ f
            · skip
              by_cases d2 : l ≤ 9999
              · skip
                by_cases d3 : f ≤ l
                · skip
                  by_cases d4 : 1 ≤ x
                  · skip
                    by_cases d5 : x ≤ 7200
                    · skip
                      by_cases e1 : ChIs m1 w1 n1 t1
                      · have q1 := Lib.hid (show decide (ChIs m1 w1 n1 t1) = true from decide_eq_true e1)
                        by_cases e2 : ChIs m2 w2 n2 t2
                        · have q2 := Lib.hid (show decide (ChIs m2 w2 n2 t2) = true from decide_eq_true e2)
                          have HYES := Lib.hid (show RlIs ⟨f, l, m1, w1, n1, t1, m2, w2, n2, t2, x⟩ from ⟨⟨d1, d2, d3⟩, ⟨d4, d5⟩, e1, e2⟩)
                          clear e1 e2 HNO
                          go_wp2_with fail
                          refine (HC1.out _).mono ?_
                          rintro e w1' ⟨rfl, hB1⟩
                          rw [q1.out]
                          have hb1 := HBX.out.trans (hB1.mono HBX.out.size)
                          have hg1 := (hB1.block w.heap.size (Array.getElem?_eq_some_iff.1 HGX.out).1).trans HGX.out
                          have hn1 := (hB1.block wr.heap.size (Array.getElem?_eq_some_iff.1 HNX.out).1).trans HNX.out
                          have s6 : w1'.cell? ⟨wr.heap.size, 6, none⟩ = some (.int .i64 m2) := cell_of_row _ _ 6 _ _ _ hn1
                          have s7 : w1'.cell? ⟨wr.heap.size, 7, none⟩ = some (.int .i64 w2) := cell_of_row _ _ 7 _ _ _ hn1
                          have s8 : w1'.cell? ⟨wr.heap.size, 8, none⟩ = some (.int .i64 n2) := cell_of_row _ _ 8 _ _ _ hn1
                          have s9 : w1'.cell? ⟨wr.heap.size, 9, none⟩ = some (.int .i64 t2) := cell_of_row _ _ 9 _ _ _ hn1
                          have HB1 := Lib.hid hb1
                          have HG1 := Lib.hid hg1
                          clear hB1 hb1 hg1 hn1 HBX HGX HNX
                          go_wp2_with fail
                          refine (HC2.out _).mono ?_
                          rintro e w2' ⟨rfl, hB2⟩
                          rw [q2.out]
                          have hb2 := HB1.out.trans (hB2.mono HB1.out.size)
                          have hg2 := (hB2.block w.heap.size (Array.getElem?_eq_some_iff.1 HG1.out).1).trans HG1.out
                          have HB2 := Lib.hid hb2
                          have HG2 := Lib.hid hg2
                          clear hB2 hb2 hg2 s6 s7 s8 s9
                          go_wp2
                          go_roundw
                          case rel => exact ⟨k + 1, by omega, by simp, fun j hj => by
                              by_cases hjk : j = k
                              · subst hjk; rw [← HK.out]; exact HYES.out
                              · exact HN.out j (by omega), HB2.out, HG2.out⟩
                          case measure => simp [intOf]; omega
                        · have q2 := Lib.hid (show decide (ChIs m2 w2 n2 t2) = false from decide_eq_false e2)
                          have HF := Lib.hid (HNO.out (fun z => e2 z.2.2.2))
                          clear e1 e2 HNO
                          go_wp2_with fail
                          refine (HC1.out _).mono ?_
                          rintro e w1' ⟨rfl, hB1⟩
                          rw [q1.out]
                          have hb1 := HBX.out.trans (hB1.mono HBX.out.size)
                          have hg1 := (hB1.block w.heap.size (Array.getElem?_eq_some_iff.1 HGX.out).1).trans HGX.out
                          have hn1 := (hB1.block wr.heap.size (Array.getElem?_eq_some_iff.1 HNX.out).1).trans HNX.out
                          have s6 : w1'.cell? ⟨wr.heap.size, 6, none⟩ = some (.int .i64 m2) := cell_of_row _ _ 6 _ _ _ hn1
                          have s7 : w1'.cell? ⟨wr.heap.size, 7, none⟩ = some (.int .i64 w2) := cell_of_row _ _ 7 _ _ _ hn1
                          have s8 : w1'.cell? ⟨wr.heap.size, 8, none⟩ = some (.int .i64 n2) := cell_of_row _ _ 8 _ _ _ hn1
                          have s9 : w1'.cell? ⟨wr.heap.size, 9, none⟩ = some (.int .i64 t2) := cell_of_row _ _ 9 _ _ _ hn1
                          have HB1 := Lib.hid hb1
                          have HG1 := Lib.hid hg1
                          clear hB1 hb1 hg1 hn1 HBX HGX HNX
                          go_wp2_with fail
                          refine (HC2.out _).mono ?_
                          rintro e w2' ⟨rfl, hB2⟩
                          rw [q2.out]
                          have hb2 := HB1.out.trans (hB2.mono HB1.out.size)
                          have hg2 := (hB2.block w.heap.size (Array.getElem?_eq_some_iff.1 HG1.out).1).trans HG1.out
                          have HB2 := Lib.hid hb2
                          have HG2 := Lib.hid hg2
                          clear hB2 hb2 hg2 s6 s7 s8 s9
                          go_wp2
                          go_ret
                          rw [← HF.out]
                          exact ⟨rfl, HB2.out⟩
                      · have q1 := Lib.hid (show decide (ChIs m1 w1 n1 t1) = false from decide_eq_false e1)
                        have HF := Lib.hid (HNO.out (fun z => e1 z.2.2.1))
                        clear e1 HNO
                        go_wp2_with fail
                        refine (HC1.out _).mono ?_
                        rintro e w1' ⟨rfl, hB1⟩
                        rw [q1.out]
                        have hb1 := HBX.out.trans (hB1.mono HBX.out.size)
                        have HB1 := Lib.hid hb1
                        clear hB1 hb1
                        go_wp2
                        go_ret
                        rw [← HF.out]
                        exact ⟨rfl, HB1.out⟩
                    · have HF := Lib.hid (HNO.out (fun z => d5 z.2.1.2))
                      clear HNO
                      go_wp2
                      go_ret
                      rw [← HF.out]
                      exact ⟨rfl, HBX.out⟩
                  · have HF := Lib.hid (HNO.out (fun z => d4 z.2.1.1))
                    clear HNO
                    go_wp2
                    go_ret
                    rw [← HF.out]
                    exact ⟨rfl, HBX.out⟩
                · have HF := Lib.hid (HNO.out (fun z => d3 z.1.2.2))
                  clear HNO
                  go_wp2
                  go_ret
                  rw [← HF.out]
                  exact ⟨rfl, HBX.out⟩
              · have HF := Lib.hid (HNO.out (fun z => d2 z.1.2.1))
                clear HNO
                go_wp2
                go_ret
                rw [← HF.out]
                exact ⟨rfl, HBX.out⟩
            · have HF := Lib.hid (HNO.out (fun z => d1 z.1.1))
              clear HNO
              go_wp2
              go_ret
              rw [← HF.out]
              exact ⟨rfl, HBX.out⟩
          · obtain rfl : k = len := by omega
            go_wp2
            go_ret
            rw [HV.out, decide_eq_true (show ZoneIs off R k from ⟨⟨HC.out.1, HC.out.2.1⟩, HC.out.2.2, HN.out⟩)]
            exact ⟨rfl, HBW.out⟩
      · have c2i : 20 < (len : Int) := by omega
        have HF := Lib.hid (show false = RV by rw [HV.out]; exact (decide_eq_false (fun z => c2 z.2.1)).symm)
        clear c2
        go_enter Tryd.func9, Tryd.ntmps9
        go_wp2
        go_ret
        rw [← HF.out]
        exact ⟨rfl, HB.out⟩
    · have HF := Lib.hid (show false = RV by rw [HV.out]; exact (decide_eq_false (fun z => c1 z.1.2)).symm)
      go_enter Tryd.func9, Tryd.ntmps9
      go_wp2
      go_ret
      rw [← HF.out]
      exact ⟨rfl, HB.out⟩
  · have HF := Lib.hid (show false = RV by rw [HV.out]; exact (decide_eq_false (fun z => c0 z.1.1)).symm)
    go_enter Tryd.func9, Tryd.ntmps9
    go_wp2
    go_ret
    rw [← HF.out]
    exact ⟨rfl, HB.out⟩
end Go.Proofs.YtobnlcmamnoefaaDoor
