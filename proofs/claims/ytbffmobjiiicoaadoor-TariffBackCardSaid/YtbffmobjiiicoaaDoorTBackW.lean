/- TariffBack, walked. -/
import Derived.Test.YtbffmobjiiicoaaDoorTAlive
import Derived.Test.YtbffmobjiiicoaaDoorFOpenO
import Derived.LoopTactic
set_option linter.unusedVariables false
set_option linter.unusedSimpArgs false
namespace Go.Proofs.YtbffmobjiiicoaaDoor
open Go.RowKit Go.Shelf
theorem payF_no {f : Nat → Int} {m b n p : Int} (h : ¬ PayIs f m b n p) : payF f m b n p = f := by rw [payF, if_neg h]
theorem payE_no {f : Nat → Int} {m b n p : Int} (h : ¬ PayIs f m b n p) : (payE f m b n p != 0) = true := by
  rw [payE, if_neg h]; split <;> decide
theorem upd_back (f : Nat → Int) (k : Nat) (x : Int) : upd (upd f k x) k (f k) = f := by
  funext j; unfold upd; split
  · rename_i h; rw [h]
  · rename_i h; rfl
theorem tmod8 (c : Int) : -8 < c.tmod 8 ∧ c.tmod 8 < 8 := by
  rcases Int.lt_or_le c 0 with h | h
  · obtain ⟨n, rfl⟩ : ∃ n : Nat, c = -(n : Int) := ⟨c.natAbs, by omega⟩
    rw [Int.neg_tmod, Int.tmod_eq_emod_of_nonneg (by omega)]; omega
  · rw [Int.tmod_eq_emod_of_nonneg h]; omega
theorem rest_other {f : Nat → Int} {m b d : Int} (hb : 0 ≤ b ∧ b ≤ 7) (hd : d = (b + 1) % 8) (x : Int) : restV (upd f (spot m b) x) m d = restV f m d := by
  unfold restV
  split
  · rename_i h
    obtain ⟨⟨h1, h2⟩, h3, h4⟩ := h
    have hne : spot m d ≠ spot m b := by unfold spot; omega
    rw [upd, if_neg hne]
  · rfl
set_option maxRecDepth 20000 in
set_option maxHeartbeats 4000000 in
theorem backW (a : Option Addr) (len cap : Nat) (L : Nat → Opn) (w : World) (hT : Tabs w) (w0 : (len ≤ cap ∧ cap ≤ maxLen) ∧ OpsAt w.heap.size w a len L) :
    Calls Tryd.prog 6 #[.slice a len cap] w fun e w' => e = .returned (.bool true) ∧ Below w.heap.size w w' := by
  obtain ⟨_, hL⟩ := w0
  have HA := Lib.hid (alive_any w hT)
  by_cases h100 : len ≤ 100
  case neg =>
    have hd : decide ((100 : Int) < (len : Int)) = true := by simp; omega
    clear h100 hL hT
    go_enter Tryd.func6, Tryd.ntmps6
    go_wp2_with fail
    refine HA.out.mono ?_
    rintro e w2 ⟨rfl, hB⟩
    go_wp2
    go_ret
    exact ⟨rfl, hB⟩
  have hd : decide ((100 : Int) < (len : Int)) = false := by simp; omega
  have H100 := Lib.hid h100
  have HL := Lib.hid hL
  clear h100 hL hT
  go_enter Tryd.func6, Tryd.ntmps6
  go_wp2_with fail
  refine HA.out.mono ?_
  rintro e X ⟨rfl, hB⟩
  have HB := Lib.hid hB
  clear hB
  go_wp2_with (refine build_purse rfl rfl ?_)
  go_loopw [28] (fun i wr => ∃ (k : Nat) (f : Nat → Int), k ≤ len ∧ i = .int .i64 k ∧ Rests f ∧ PAt 54 wr X.heap.size f ∧ Below X.heap.size X wr) (fun i _ => len - (intOf i).toNat)
  case atStart => exact ⟨0, _, Nat.zero_le _, rfl, Rests.zero, PAt.new X 54 (fun _ => 0), (Below.refl _ X).alloc (Nat.le_refl _) _⟩
  case round =>
    obtain ⟨k, f, hk, rfl, hf, hP, hB2⟩ := hrel
    by_cases hlt : k < len
    case neg =>
      have hd2 : decide (k < len) = false := by simp; omega
      have HB2 := Lib.hid hB2
      clear hf hP hB2 hk hlt
      go_wp2
      go_ret
      exact ⟨rfl, HB.out.trans (HB2.out.mono HB.out.size)⟩
    have hd2 : decide (k < len) = true := by simpa using hlt
    obtain ⟨ab, ao, rfl, hb, c0, c1, c2, c3, c4⟩ := (HL.out.next HB.out (Nat.le_refl _)).next hB2 HB.out.size k hlt
    obtain ⟨x, hx⟩ : ∃ x, L k = x := ⟨_, rfl⟩
    rw [hx] at c0 c1 c2 c3 c4
    have i1 : (k : Int) < len := by omega
    have wk : wrap64 ((k : Int) + 1) = ((k + 1 : Nat) : Int) := by have := H100.out; unfold wrap64; omega
    obtain ⟨c, hc⟩ : ∃ c, wrap64 (x.b + 1) = c := ⟨_, rfl⟩
    obtain ⟨d, hdd⟩ : ∃ d, c.tmod 8 = d := ⟨_, rfl⟩
    have hd8 := tmod8 c
    rw [hdd] at hd8
    have hwd : wrap64 d = d := by unfold wrap64; omega
    have HCD := Lib.hid (And.intro hc hdd)
    have HK := Lib.hid hlt
    have hs1 : X.heap.size < wr.heap.size := hP.lt
    have HF := Lib.hid hf
    have HO := Lib.hid (OpAt.new wr x)
    have HP := Lib.hid (hP.alloc (.cells (opC x) 70))
    have HBB := Lib.hid (hB2.trans ((Below.refl _ _).alloc (Nat.le_of_lt hP.lt) (.cells (opC x) 70)))
    have q := HO.out.five
    obtain ⟨q0, q1, q2, q3, q4⟩ := q
    clear hf hP hB2 hk hlt hx hb hd8
    go_wp2_with fail
    generalize wr.alloc _ = X0 at *
    refine (rest_any X.heap.size f x.m x.b X0 HP.out).mono ?_
    rintro e _ ⟨rfl, rfl⟩
    go_wp2_with fail
    refine (rest_any X.heap.size f x.m d X0 HP.out).mono ?_
    rintro e _ ⟨rfl, rfl⟩
    go_wp2_with fail
    refine (pay_any X.heap.size f x.m x.b x.n x.p X0 HP.out HF.out).mono ?_
    rintro e X1 ⟨rfl, hP1, hG1⟩
    by_cases hpay : PayIs f x.m x.b x.n x.p
    · obtain ⟨y1, y2, y3⟩ := pay_yes hpay
      obtain ⟨⟨hpl, hn, hp⟩, hx2⟩ := id hpay
      have hr1 : restV f x.m x.b = f (spot x.m x.b) := by rw [restV, if_pos hpl]
      have hbk : BackIs x.m x.b (f (spot x.m x.b)) := ⟨hpl, (HF.out _).1, by have := (HF.out (spot x.m x.b)).2; omega⟩
      have hF2 := HF.out.pay x.m x.b x.n x.p
      have hxm : 0 ≤ payX f x.m x.b x.n x.p % 1000000 ∧ payX f x.m x.b x.n x.p % 1000000 < 1000000 := by omega
      have hbF : backF (payF f x.m x.b x.n x.p) x.m x.b (f (spot x.m x.b)) = f := by rw [(back_yes hbk _).2, y3, upd_back]
      have hro : restV (payF f x.m x.b x.n x.p) x.m d = restV f x.m d := by
        rw [y3]
        obtain ⟨_, hb7⟩ := hpl
        have h1 := HCD.out.1
        have h2 := HCD.out.2
        have h3 : c = x.b + 1 := by rw [← h1]; unfold wrap64; omega
        exact rest_other hb7 (by rw [← h2, h3, Int.tmod_eq_emod_of_nonneg (by omega)]) _
      rw [y2]
      rw [hr1]
      have HBK := Lib.hid (back_yes hbk (payF f x.m x.b x.n x.p)).1
      have HBF := Lib.hid hbF
      have HRO := Lib.hid hro
      have Y2 := Lib.hid y2
      have HF2 := Lib.hid hF2
      have HR1 := Lib.hid hr1
      have HP1 := Lib.hid hP1
      have HO1 := Lib.hid (HO.out.far hG1 (by omega))
      have HB1 := Lib.hid (below_grown HBB.out hG1 (Nat.le_of_lt HP.out.lt) (Nat.le_refl _))
      have q := HO1.out.five
      clear q0 q1 q2 q3 q4 hP1 hG1 y1 y2 y3 hpay hpl hn hp hx2 hr1 hbk hF2 hxm hbF hro
      obtain ⟨q0, q1, q2, q3, q4⟩ := q
      generalize hf2 : payF f x.m x.b x.n x.p = f2 at *
      generalize hcv : payV f x.m x.b x.n x.p = cost at *
      have HFV := Lib.hid (And.intro hf2 hcv)
      clear hf2 hcv
      go_wp2_with fail
      refine (rest_any X.heap.size f2 x.m x.b X1 HP1.out).mono ?_
      rintro e _ ⟨rfl, rfl⟩
      go_wp2_with fail
      refine (back_any X.heap.size f2 x.m x.b _ X1 HP1.out).mono ?_
      rintro e X2 ⟨rfl, hP2, hG2⟩
      rw [HBK.out]
      rw [HBF.out] at hP2
      have HP2 := Lib.hid hP2
      have HO2 := Lib.hid (HO1.out.far hG2 (by omega))
      have HB2 := Lib.hid (below_grown HB1.out hG2 (Nat.le_of_lt HP1.out.lt) (Nat.le_refl _))
      have q := HO2.out.five
      clear q0 q1 q2 q3 q4 hP2 hG2
      obtain ⟨q0, q1, q2, q3, q4⟩ := q
      go_wp2_with fail
      refine (pay_any X.heap.size f x.m x.b x.n x.p X2 HP2.out HF.out).mono ?_
      rintro e X3 ⟨rfl, hP3, hG3⟩
      rw [HFV.out.2, Y2.out]
      rw [HFV.out.1] at hP3
      have HP3 := Lib.hid hP3
      have HO3 := Lib.hid (HO2.out.far hG3 (by omega))
      have HB3 := Lib.hid (below_grown HB2.out hG3 (Nat.le_of_lt HP2.out.lt) (Nat.le_refl _))
      have q := HO3.out.five
      clear q0 q1 q2 q3 q4 hP3 hG3
      obtain ⟨q0, q1, q2, q3, q4⟩ := q
      go_wp2_with fail
      refine (rest_any X.heap.size f2 x.m x.b X3 HP3.out).mono ?_
      rintro e _ ⟨rfl, rfl⟩
      go_wp2_with fail
      refine (rest_any X.heap.size f2 x.m d X3 HP3.out).mono ?_
      rintro e _ ⟨rfl, rfl⟩
      rw [HRO.out]
      go_wp2
      go_roundw
      case rel => exact ⟨k + 1, f2, HK.out, by first | rfl | rw [wk], HF2.out, HP3.out, HB3.out⟩
      case measure =>
        have hk2 := HK.out
        first
          | (show len - (intOf (.int .i64 (wrap64 ((k : Int) + 1)))).toNat < len - (intOf (.int .i64 (k : Int))).toNat; rw [wk])
          | (show len - (intOf (.int .i64 ((k + 1 : Nat) : Int))).toNat < len - (intOf (.int .i64 (k : Int))).toNat)
        show len - ((k + 1 : Nat) : Int).toNat < len - ((k : Nat) : Int).toNat
        omega
    · have y2 := payE_no hpay
      rw [payF_no hpay] at hP1
      have HP1 := Lib.hid hP1
      have HO1 := Lib.hid (HO.out.far hG1 (by omega))
      have HB1 := Lib.hid (below_grown HBB.out hG1 (Nat.le_of_lt HP.out.lt) (Nat.le_refl _))
      have q := HO1.out.five
      clear q0 q1 q2 q3 q4 hP1 hG1 hpay
      obtain ⟨q0, q1, q2, q3, q4⟩ := q
      generalize payV f x.m x.b x.n x.p = cost at *
      generalize payE f x.m x.b x.n x.p = er at *
      go_wp2_with fail
      refine (rest_any X.heap.size f x.m x.b X1 HP1.out).mono ?_
      rintro e _ ⟨rfl, rfl⟩
      go_wp2
      go_roundw
      case rel => exact ⟨k + 1, f, HK.out, by first | rfl | rw [wk], HF.out, HP1.out, HB1.out⟩
      case measure =>
        have hk2 := HK.out
        first
          | (show len - (intOf (.int .i64 (wrap64 ((k : Int) + 1)))).toNat < len - (intOf (.int .i64 (k : Int))).toNat; rw [wk])
          | (show len - (intOf (.int .i64 ((k + 1 : Nat) : Int))).toNat < len - (intOf (.int .i64 (k : Int))).toNat)
        show len - ((k + 1 : Nat) : Int).toNat < len - ((k : Nat) : Int).toNat
        omega
end Go.Proofs.YtbffmobjiiicoaaDoor
