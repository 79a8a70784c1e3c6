/- slices.Equal of stretches; the program's Same. -/
import Derived.Test.YtmbimnphdhmapaaDoorBColl
import Derived.Test.YtmbimnphdhmapaaDoorBSame
set_option linter.unusedVariables false
set_option linter.unusedSimpArgs false
namespace Go.Proofs.YtmbimnphdhmapaaDoor
open Go.RowKit Go.Shelf
theorem st_fields : Tryd.prog.underlying 71 = some (.struct (Tryd.prog.fieldsOf 71)) := by kernel_rfl
theorem st_stood : Tryd.prog.stoodInHeld 71 = false := by kernel_rfl
set_option maxRecDepth 100000 in
theorem neq_st (a b c a' b' c' : Int) (w : World) : (binOp .neq 71 (.agg #[.int .i64 a, .int .i64 b, .int .i64 c]) (.agg #[.int .i64 a', .int .i64 b', .int .i64 c'])).run Tryd.prog w = .ok (.bool (!((a == a') && ((b == b') && (c == c'))))) w := by
  have hu := Tryd.underlying71
  have hi := Tryd.underlying3
  have c1 : Tryd.prog.cellsOf 3 = 1 := by kernel_rfl
  rw [run_neq_struct, run_equalIn_struct w 9999 _ _ _ st_fields st_stood]
  simp only [Program.fieldsOf, hu]
  rw [eqF_cons (a := a) (b := a') (by decide) (by simp [go_sem]) (by simp [go_sem]) hi, eqF_cons (a := b) (b := b') (by decide) (by simp [go_sem]) (by simp [go_sem]) hi, eqF_cons (a := c) (b := c') (by decide) (by simp [go_sem]) (by simp [go_sem]) hi, eqF_nil]
  try simp only []
  cases (a == a') <;> cases (b == b') <;> cases (c == c') <;> rfl
theorem getD_ext {xs ys : List St} (hl : xs.length = ys.length) (h : ∀ i, i < xs.length → xs.getD i ⟨0, 0, 0⟩ = ys.getD i ⟨0, 0, 0⟩) : xs = ys := by
  apply List.ext_getElem hl
  intro i h1 h2
  have := h i h1
  simpa [List.getD, h1, h2] using this
/-- The cells of a list of stretches. -/
def StsAt (W : World) (a : Option Addr) (xs : List St) : Prop := ∀ i, i < xs.length → ∃ g, a = some ⟨g, 0, none⟩ ∧ g < W.heap.size ∧ W.cell? ⟨g, i * 3, none⟩ = some (.int .i64 (xs.getD i ⟨0, 0, 0⟩).b) ∧ W.cell? ⟨g, i * 3 + 1, none⟩ = some (.int .i64 (xs.getD i ⟨0, 0, 0⟩).e) ∧ W.cell? ⟨g, i * 3 + 2, none⟩ = some (.int .i64 (xs.getD i ⟨0, 0, 0⟩).d)
theorem StsAt.next {W X : World} {a : Option Addr} {xs : List St} (h : StsAt W a xs) (hB : Below W.heap.size W X) : StsAt X a xs := by
  intro i hi
  obtain ⟨g, e, hg, h0, h1, h2⟩ := h i hi
  have hx : ∀ k, X.cell? ⟨g, k, none⟩ = W.cell? ⟨g, k, none⟩ := fun k => hB.cell (p := ⟨g, k, none⟩) hg
  exact ⟨g, e, Nat.lt_of_lt_of_le hg hB.size, (hx _).trans h0, (hx _).trans h1, (hx _).trans h2⟩
theorem equalT_any (a a2 : Option Addr) (c c2 : Nat) (xs ys : List St) (w : World) (h1 : StsAt w a xs) (h2 : StsAt w a2 ys) (hl1 : xs.length ≤ 1000) (hl2 : ys.length ≤ 1000) :
    Calls Tryd.prog 31 #[.slice a xs.length c, .slice a2 ys.length c2] w fun e w' => e = .returned (.bool (decide (xs = ys))) ∧ Below w.heap.size w w' := by
  obtain ⟨n, hn⟩ : ∃ n, xs.length = n := ⟨_, rfl⟩
  obtain ⟨m, hm⟩ : ∃ m, ys.length = m := ⟨_, rfl⟩
  rw [hn] at hl1 ⊢
  rw [hm] at hl2 ⊢
  by_cases hnm : n = m
  · subst hnm
    have g0 : ((n : Int) != n) = false := by simp
    have H1 := Lib.hid h1
    have H2 := Lib.hid h2
    have HN := Lib.hid hn
    have HM := Lib.hid hm
    clear h1 h2 hn hm
    go_enter Tryd.func31, Tryd.ntmps31
    go_wp2
    go_loopw [13] (fun i wr => ∃ k : Nat, k ≤ n ∧ i = .int .i64 k ∧ (∀ j, j < k → xs.getD j ⟨0, 0, 0⟩ = ys.getD j ⟨0, 0, 0⟩) ∧ Below w.heap.size w wr) (fun i _ => (n - intOf i).toNat)
    case atStart => exact ⟨0, Nat.zero_le _, rfl, fun j hj => absurd hj (Nat.not_lt_zero _), Below.refl _ _⟩
    case round =>
      obtain ⟨k, hk, rfl, hall, hb⟩ := hrel
      have HALL := Lib.hid hall
      have HB := Lib.hid hb
      clear hall hb
      by_cases hlt : k < n
      · have hlti : (k : Int) < n := by omega
        obtain ⟨g, rfl, hg, c0, c1, c2⟩ := H1.out.next HB.out k (by rw [HN.out]; exact hlt)
        obtain ⟨g2, rfl, hg2, d0, d1, d2⟩ := H2.out.next HB.out k (by rw [HM.out]; exact hlt)
        obtain ⟨s, hs⟩ : ∃ s, xs.getD k ⟨0, 0, 0⟩ = s := ⟨_, rfl⟩
        obtain ⟨t, ht⟩ : ∃ t, ys.getD k ⟨0, 0, 0⟩ = t := ⟨_, rfl⟩
        rw [hs] at c0 c1 c2
        rw [ht] at d0 d1 d2
        obtain ⟨s0, s1, s2⟩ := s
        obtain ⟨t0, t1, t2⟩ := t
        simp only at c0 c1 c2 d0 d1 d2
        have hne := neq_st s0 s1 s2 t0 t1 t2
        obtain ⟨f, hf⟩ : ∃ f, (!((s0 == t0) && ((s1 == t1) && (s2 == t2)))) = f := ⟨_, rfl⟩
        rw [hf] at hne
        have HS := Lib.hid hs
        have HT := Lib.hid ht
        have HF := Lib.hid hf
        clear hs ht hf
        cases f
        · have HE := Lib.hid (show xs.getD k ⟨0, 0, 0⟩ = ys.getD k ⟨0, 0, 0⟩ by
            have h := HF.out
            rw [HS.out, HT.out]
            simp at h
            rw [h.1, h.2.1, h.2.2])
          go_wp2_with fail
          go_quiet (fail)
          go_wp2
          go_roundw
          case rel => exact ⟨k + 1, by omega, by go_num, fun j hj => by rcases Nat.lt_succ_iff_lt_or_eq.1 hj with q | q; exact HALL.out j q; rw [q]; exact HE.out, below_drewN HB.out _⟩
          case measure => first | (simp [intOf]; done) | (simp [intOf]; omega)
        · have HNO := Lib.hid (show decide (xs = ys) = false from decide_eq_false (fun q => by
            have h := HF.out
            have e : xs.getD k ⟨0, 0, 0⟩ = ys.getD k ⟨0, 0, 0⟩ := by rw [q]
            rw [HS.out, HT.out] at e
            injection e with e1 e2 e3
            rw [e1, e2, e3] at h
            simp at h))
          go_wp2_with fail
          go_quiet (fail)
          go_wp2
          go_ret
          rw [HNO.out]
          exact ⟨rfl, below_drewN HB.out _⟩
      · have hke : k = n := by omega
        subst hke
        have HYES := Lib.hid (show decide (xs = ys) = true from decide_eq_true (getD_ext (HN.out.trans HM.out.symm) (fun i hi => HALL.out i (by rw [← HN.out]; exact hi))))
        go_wp2
        go_ret
        rw [HYES.out]
        exact ⟨rfl, HB.out⟩
  · have g0 : ((n : Int) != m) = true := by simp; omega
    have HNO := Lib.hid (show decide (xs = ys) = false from decide_eq_false (fun q => hnm (by rw [← hn, ← hm, q])))
    clear h1 h2 hn hm
    go_enter Tryd.func31, Tryd.ntmps31
    go_wp2
    go_ret
    rw [HNO.out]
    exact ⟨rfl, Below.refl _ _⟩
theorem stretchesOf_any (a : Option Addr) (len cap : Nat) (w : World) :
    Calls Tryd.prog 33 #[.slice a len cap] w fun e w' => e = .returned (.func (.func 43) #[] #[.pointer (some ⟨w.heap.size, 0, none⟩)]) ∧ w' = w.alloc (.cells #[.slice a len cap] 22) := by
  go_enter Tryd.func33, Tryd.ntmps33
  go_wp2
  go_ret
  exact ⟨rfl, rfl⟩
/-- The stretches of a plan, collected. -/
theorem coll_any (a : Option Addr) (len cap : Nat) (L : Nat → Sw) (hp : PlanIs L len) (w : World) (n₀ : Nat) (hn0 : n₀ ≤ w.heap.size) (hA : SwsAt n₀ w a len L) :
    Calls Tryd.prog 32 #[.func (.func 43) #[] #[.pointer (some ⟨w.heap.size, 0, none⟩)]] (w.alloc (.cells #[.slice a len cap] 22)) fun e w' => (∃ a' c', e = .returned (.slice a' (strs L len).length c') ∧ StsAt w' a' (strs L len)) ∧ Below w.heap.size w w' := by
  have hb := (Below.refl _ w).alloc (Nat.le_refl _) (.cells #[.slice a len cap] 22)
  refine (collect_any w.heap.size n₀ a len cap L hp _ (by rw [World.size_alloc]; omega) (heap_alloc_new w _) (hA.next hb hn0 (Nat.le_refl _))).mono ?_
  rintro e w' ⟨⟨v, rfl, hO⟩, hB⟩
  obtain ⟨a', c', rfl⟩ := hO.form
  exact ⟨⟨a', c', rfl, hO.cells⟩, hb.trans (hB.mono hb.size)⟩
set_option maxRecDepth 100000 in
set_option maxHeartbeats 2000000 in
theorem same_no (a : Option Addr) (len cap : Nat) (L : Nat → Sw) (a2 : Option Addr) (len2 cap2 : Nat) (M : Nat → Sw) (hno : ¬ (PlanIs L len ∧ PlanIs M len2)) (w : World) (hA : SwsAt w.heap.size w a len L) (hM : SwsAt w.heap.size w a2 len2 M) (hlm : len ≤ maxLen) (hlm2 : len2 ≤ maxLen) :
    Calls Tryd.prog 16 #[.slice a len cap, .slice a2 len2 cap2] w fun e w' => e = .returned (.bool false) ∧ Below w.heap.size w w' := by
  have H1 := Lib.hid (checkPlan_any a len cap L w hA hlm)
  have H2 := Lib.hid (fun X (hX : Below w.heap.size w X) => checkPlan_any a2 len2 cap2 M X ((hM.next hX (Nat.le_refl _) (Nat.le_refl _)).mono hX.size) hlm2)
  by_cases h1 : PlanIs L len
  · rw [pErr_yes h1] at H1
    rw [pErr_no (fun h => hno ⟨h1, h⟩)] at H2
    clear hno h1 hA hM hlm hlm2
    go_enter Tryd.func16, Tryd.ntmps16
    go_wp2_with fail
    refine H1.out.mono ?_
    rintro e w1 ⟨rfl, hB1⟩
    have HB1 := Lib.hid hB1
    clear hB1
    go_wp2_with fail
    refine (H2.out _ HB1.out).mono ?_
    rintro e w2 ⟨rfl, hB2⟩
    have HB2 := Lib.hid (HB1.out.trans (hB2.mono HB1.out.size))
    clear hB2
    go_wp2
    go_ret
    exact ⟨rfl, HB2.out⟩
  · rw [pErr_no h1] at H1
    clear hno h1 hA hM hlm hlm2 H2
    go_enter Tryd.func16, Tryd.ntmps16
    go_wp2_with fail
    refine H1.out.mono ?_
    rintro e w1 ⟨rfl, hB1⟩
    have HB1 := Lib.hid hB1
    clear hB1
    go_wp2
    go_ret
    exact ⟨rfl, HB1.out⟩
set_option maxRecDepth 100000 in
set_option maxHeartbeats 2000000 in
theorem same_yes (a : Option Addr) (len cap : Nat) (L : Nat → Sw) (a2 : Option Addr) (len2 cap2 : Nat) (M : Nat → Sw) (hp1 : PlanIs L len) (hp2 : PlanIs M len2) (w : World) (hA : SwsAt w.heap.size w a len L) (hM : SwsAt w.heap.size w a2 len2 M) (hlm : len ≤ maxLen) (hlm2 : len2 ≤ maxLen) :
    Calls Tryd.prog 16 #[.slice a len cap, .slice a2 len2 cap2] w fun e w' => e = .returned (.bool (decide (SameP L len M len2))) ∧ Below w.heap.size w w' := by
  have H1 := Lib.hid (checkPlan_any a len cap L w hA hlm)
  have H2 := Lib.hid (fun X (hX : Below w.heap.size w X) => checkPlan_any a2 len2 cap2 M X ((hM.next hX (Nat.le_refl _) (Nat.le_refl _)).mono hX.size) hlm2)
  rw [pErr_yes hp1] at H1
  rw [pErr_yes hp2] at H2
  have HA := Lib.hid hA
  have HM := Lib.hid hM
  have HP1 := Lib.hid hp1
  have HP2 := Lib.hid hp2
  have hl1 := strs_len L len
  have hl2 := strs_len M len2
  have hq1 := hp1.2.1
  have hq2 := hp2.2.1
  obtain ⟨xs, hxs⟩ : ∃ xs, strs L len = xs := ⟨_, rfl⟩
  obtain ⟨ys, hys⟩ : ∃ ys, strs M len2 = ys := ⟨_, rfl⟩
  have HXS := Lib.hid hxs
  have HYS := Lib.hid hys
  rw [hxs] at hl1
  rw [hys] at hl2
  clear hA hM hp1 hp2 hlm hlm2 hxs hys
  go_enter Tryd.func16, Tryd.ntmps16
  go_wp2_with fail
  refine H1.out.mono ?_
  rintro e w1 ⟨rfl, hB1⟩
  have HB1 := Lib.hid hB1
  clear hB1
  go_wp2_with fail
  refine (H2.out _ HB1.out).mono ?_
  rintro e w2 ⟨rfl, hB2⟩
  have HB2 := Lib.hid (HB1.out.trans (hB2.mono HB1.out.size))
  clear hB2 H1 H2
  go_wp2_with (first | (go_at_call 33; refine (stretchesOf_any _ _ _ _).mono ?_; rintro e w' ⟨rfl, rfl⟩))
  refine (coll_any a len cap L HP1.out w2 w.heap.size HB2.out.size (HA.out.next HB2.out (Nat.le_refl _) (Nat.le_refl _))).mono ?_
  rw [HXS.out]
  rintro e w3 ⟨⟨v1, k1, rfl, hs1⟩, hB3⟩
  have HB3 := Lib.hid (HB2.out.trans (hB3.mono HB2.out.size))
  have HS1 := Lib.hid hs1
  clear hB3 hs1
  go_wp2_with (first | (go_at_call 33; refine (stretchesOf_any _ _ _ _).mono ?_; rintro e w' ⟨rfl, rfl⟩))
  refine (coll_any a2 len2 cap2 M HP2.out w3 w.heap.size HB3.out.size (HM.out.next HB3.out (Nat.le_refl _) (Nat.le_refl _))).mono ?_
  rw [HYS.out]
  rintro e w4 ⟨⟨v2, k2, rfl, hs2⟩, hB4⟩
  have HB4 := Lib.hid (HB3.out.trans (hB4.mono HB3.out.size))
  have HS1 := Lib.hid (HS1.out.next hB4)
  have HS2 := Lib.hid hs2
  clear hB4 hs2
  go_wp2_with fail
  refine (equalT_any v1 v2 k1 k2 xs ys w4 HS1.out HS2.out (by omega) (by omega)).mono ?_
  rintro e w5 ⟨rfl, hB5⟩
  have HB5 := Lib.hid (HB4.out.trans (hB5.mono HB4.out.size))
  have HD := Lib.hid (show decide (xs = ys) = decide (SameP L len M len2) by
    rw [← HXS.out, ← HYS.out]
    exact decide_eq_decide.2 (strs_same HP1.out HP2.out))
  clear hB5
  go_wp2
  go_ret
  rw [HD.out]
  exact ⟨rfl, HB5.out⟩
theorem sameP_any (a : Option Addr) (len cap : Nat) (L : Nat → Sw) (a2 : Option Addr) (len2 cap2 : Nat) (M : Nat → Sw) (w : World) (hA : SwsAt w.heap.size w a len L) (hM : SwsAt w.heap.size w a2 len2 M) (hlm : len ≤ maxLen) (hlm2 : len2 ≤ maxLen) :
    Calls Tryd.prog 16 #[.slice a len cap, .slice a2 len2 cap2] w fun e w' => e = .returned (.bool (decide (SameP L len M len2))) ∧ Below w.heap.size w w' := by
  by_cases h : PlanIs L len ∧ PlanIs M len2
  · exact same_yes a len cap L a2 len2 cap2 M h.1 h.2 w hA hM hlm hlm2
  · rw [decide_eq_false (fun q => h ⟨q.1, q.2.1⟩)]
    exact same_no a len cap L a2 len2 cap2 M h w hA hM hlm hlm2
end Go.Proofs.YtmbimnphdhmapaaDoor
