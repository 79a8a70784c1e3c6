/- TariffPays, walked. -/
import Derived.Test.YtbffmobjiiicoaaFCopy
import Derived.Test.YtbffmobjiiicoaaFRefPay
import Derived.Test.YtbffmobjiiicoaaFOpenO
import Derived.LoopTactic
set_option linter.unusedVariables false
set_option linter.unusedSimpArgs false
namespace Go.Proofs.Ytbffmobjiiicoaa
open Go.RowKit
theorem infoR : (Try.prog.info? 30).map (fun i => (i.zero, i.size)) = some (some (.agg zeroP), 512) := by kernel_rfl
theorem builtR : Try.prog.built 30 [] = some zeroP := by kernel_rfl
theorem build_rpurse {ops : Array Oper} {rest : List Oper} {o : Oper} {a : Act} {w : World} {Q : Exit → Act → World → Prop}
    (hgd : o.guard = none) (ho : o.op = .build 30 #[]) (h : wpList Try.prog ops Q rest (a.put o.dst (.agg zeroP)) w) : wpList Try.prog ops Q (o :: rest) a w := by
  have e : ((#[] : Array (Nat × Operand)).map fun (i, x) => (i, a.eval x)).toList = [] := by simp
  refine wpList_build hgd 30 #[] ho ?_ ?_
  · rw [e, builtR]; rfl
  · rw [e, builtR]; exact h
theorem frame_of {N : Nat} {l : List Value} (h : l.length = N) : l = (List.range N).map (fun i => l.getD i undef) := by
  subst h
  apply List.ext_getElem (by simp)
  intro i h1 h2
  simp [List.getD, h1]
structure St (n0 : Nat) (w W : World) (g : Nat) (x : Opn) (f f2 : Nat → Int) : Prop where
  p : PAt 27 W n0 f
  r : PAt 30 W (n0 + 1) f2
  o : OpAt W g x
  hg : n0 + 1 < g
  b : Below n0 w W
section
variable {n0 : Nat} {w W X : World} {g c : Nat} {x : Opn} {f f2 f' : Nat → Int}
theorem St.atP (h : St n0 w W g x f f2) (hP : PAt 27 X n0 f') (hG : W.grownBy X (some n0)) : St n0 w X g x f' f2 :=
  ⟨hP, h.r.far hG (by omega), h.o.far hG (by have := h.hg; omega), h.hg, below_grown h.b hG (Nat.le_of_lt h.p.lt) (Nat.le_refl _)⟩
theorem St.atR (h : St n0 w W g x f f2) (hP : PAt 30 X (n0 + 1) f') (hG : W.grownBy X (some (n0 + 1))) : St n0 w X g x f f' :=
  ⟨h.p.far hG (by omega), hP, h.o.far hG (by have := h.hg; omega), h.hg, below_grown h.b hG (Nat.le_of_lt h.p.lt) (by omega)⟩
theorem St.next (h : St n0 w W g x f f2) (hB : Below W.heap.size W X) : St n0 w X g x f f2 :=
  ⟨h.p.next hB, h.r.next hB, h.o.next hB, h.hg, h.b.trans (hB.mono (Nat.le_of_lt h.p.lt))⟩
theorem St.atC (h : St n0 w W g x f f2) (hG : W.grownBy X (some c)) (hc : g < c) : St n0 w X g x f f2 :=
  ⟨h.p.far hG (by have := h.hg; omega), h.r.far hG (by have := h.hg; omega), h.o.far hG (by omega), h.hg, below_grown h.b hG (Nat.le_of_lt h.p.lt) (by have := h.hg; omega)⟩
end
theorem rest_place {f : Nat → Int} {m b : Int} (h : Place m b) : restV f m b = f (spot m b) := if_pos h
theorem rest_none {f : Nat → Int} {m b : Int} (h : ¬ Place m b) : restV f m b = 0 := if_neg h
set_option maxRecDepth 20000 in
set_option maxHeartbeats 4000000 in
theorem paysW (a : Option Addr) (len cap : Nat) (L : Nat → Opn) (w : World) (w0 : (len ≤ cap ∧ cap ≤ maxLen) ∧ OpsAt w.heap.size w a len L) :
    Calls Try.prog 3 #[.slice a len cap] w fun e w' => e = .returned (.bool true) ∧ Below w.heap.size w w' := by
  obtain ⟨_, hL⟩ := w0
  by_cases h200 : len ≤ 200
  case neg =>
    have hd : decide ((200 : Int) < (len : Int)) = true := by simp; omega
    clear h200 hL
    go_enter Try.func3, Try.ntmps3
    go_wp2
    go_ret
    exact ⟨rfl, Below.refl _ _⟩
  have hd : decide ((200 : Int) < (len : Int)) = false := by simp; omega
  have H200 := Lib.hid h200
  have HL := Lib.hid hL
  clear h200 hL
  go_enter Try.func3, Try.ntmps3
  go_wp2_with (first | (refine build_purse rfl rfl ?_) | (refine build_rpurse rfl rfl ?_))
  refine wp_loop (fun a' w' => ∃ l : List Value, a' = ⟨l.toArray, []⟩ ∧ l.length = 156 ∧ (l.getD 0 undef = .slice a len cap ∧ l.getD 1 undef = undef ∧ l.getD 3 undef = .pointer (some ⟨w.heap.size, 0, none⟩) ∧ l.getD 4 undef = .pointer (some ⟨w.heap.size + 1, 0, none⟩) ∧ l.getD 23 undef = .int .i64 (len : Int)) ∧ ∃ i : Value, l.getD 24 undef = i ∧ (∃ (k : Nat) (f : Nat → Int), k ≤ len ∧ i = .int .i64 k ∧ Rests f ∧ PAt 27 w' w.heap.size f ∧ PAt 30 w' (w.heap.size + 1) f ∧ Below w.heap.size w w')) (fun a' w' => len - (intOf (a'.tmps.getD 24 undef)).toNat) ?_ ?_
  · refine ⟨_, rfl, rfl, ⟨rfl, rfl, rfl, rfl, rfl⟩, _, rfl, ?_⟩
    have b1 := PAt.new w 27 (fun _ => 0)
    have b2 := PAt.new (w.alloc (.cells zeroP 27)) 30 (fun _ => 0)
    simp only [World.size_alloc] at b2
    exact ⟨0, _, Nat.zero_le _, rfl, Rests.zero, b1.alloc _, b2, ((Below.refl _ w).alloc (Nat.le_refl _) _).alloc (by simp) _⟩
  · rintro _ wr ⟨l, rfl, hl, ⟨g0, g1, g3, g4, g23⟩, i, v24, k, f, hk, hki, hf, hP, hR, hB⟩
    obtain ⟨u, hu, hv⟩ : ∃ u : Nat → Value, (∀ i, l.getD i undef = u i) ∧ l = (List.range 156).map u := ⟨_, fun _ => rfl, frame_of hl⟩
    rw [hu] at g0 g1 g3 g4 g23 v24
    rw [hv, show (List.range 156).map u = [u 0, u 1, u 2, u 3, u 4, u 5, u 6, u 7, u 8, u 9, u 10, u 11, u 12, u 13, u 14, u 15, u 16, u 17, u 18, u 19, u 20, u 21, u 22, u 23, u 24, u 25, u 26, u 27, u 28, u 29, u 30, u 31, u 32, u 33, u 34, u 35, u 36, u 37, u 38, u 39, u 40, u 41, u 42, u 43, u 44, u 45, u 46, u 47, u 48, u 49, u 50, u 51, u 52, u 53, u 54, u 55, u 56, u 57, u 58, u 59, u 60, u 61, u 62, u 63, u 64, u 65, u 66, u 67, u 68, u 69, u 70, u 71, u 72, u 73, u 74, u 75, u 76, u 77, u 78, u 79, u 80, u 81, u 82, u 83, u 84, u 85, u 86, u 87, u 88, u 89, u 90, u 91, u 92, u 93, u 94, u 95, u 96, u 97, u 98, u 99, u 100, u 101, u 102, u 103, u 104, u 105, u 106, u 107, u 108, u 109, u 110, u 111, u 112, u 113, u 114, u 115, u 116, u 117, u 118, u 119, u 120, u 121, u 122, u 123, u 124, u 125, u 126, u 127, u 128, u 129, u 130, u 131, u 132, u 133, u 134, u 135, u 136, u 137, u 138, u 139, u 140, u 141, u 142, u 143, u 144, u 145, u 146, u 147, u 148, u 149, u 150, u 151, u 152, u 153, u 154, u 155] from rfl]
    rw [g0, g1, g3, g4, g23, v24]
    clear hu hv hl g0 g1 g3 g4 g23 v24 l
    rw [hki]
    clear hki i
    by_cases hlt : k < len
    case neg =>
      have hd2 : decide (k < len) = false := by simp; omega
      have HB := Lib.hid hB
      clear hf hP hR hB hk hlt
      go_wp2
      go_ret
      exact ⟨rfl, HB.out⟩
    have hd2 : decide ((k : Int) < (len : Int)) = true := by simp; omega
    obtain ⟨ab, ao, rfl, hb, c0, c1, c2, c3, c4⟩ := HL.out.next hB (Nat.le_refl _) k hlt
    obtain ⟨x, hx⟩ : ∃ x, L k = x := ⟨_, rfl⟩
    rw [hx] at c0 c1 c2 c3 c4
    have i1 : (k : Int) < len := by omega
    have hs1 : w.heap.size + 1 < wr.heap.size := hR.lt
    have HF := Lib.hid hf
    have HS := Lib.hid (show St w.heap.size w (wr.alloc (.cells (opC x) 32)) wr.heap.size x f f from
      ⟨hP.alloc _, hR.alloc _, OpAt.new wr x, hs1, hB.trans ((Below.refl _ _).alloc (Nat.le_of_lt hP.lt) _)⟩)
    have HK := Lib.hid hlt
    have q := HS.out.o.five
    obtain ⟨q0, q1, q2, q3, q4⟩ := q
    have wk : wrap64 ((k : Int) + 1) = ((k + 1 : Nat) : Int) := by have := H200.out; unfold wrap64; omega
    clear hf hP hR hB hk hlt hx hb hs1
    have hkind : ((x.k == 0) = true) ∨ ((x.k == 0) = false ∧ (x.k == 1) = true) ∨ ((x.k == 0) = false ∧ (x.k == 1) = false) := by
      cases x.k == 0 <;> cases x.k == 1 <;> simp
    have hplace : (decide (0 ≤ x.m) = true ∧ decide (x.m ≤ 63) = true ∧ decide (0 ≤ x.b) = true ∧ decide (x.b ≤ 7) = true ∧ Hid (Place x.m x.b)) ∨ (Hid (¬ Place x.m x.b) ∧ (decide (0 ≤ x.m) = false ∨ (decide (0 ≤ x.m) = true ∧ decide (x.m ≤ 63) = false) ∨
        (decide (0 ≤ x.m) = true ∧ decide (x.m ≤ 63) = true ∧ decide (0 ≤ x.b) = false) ∨ (decide (0 ≤ x.m) = true ∧ decide (x.m ≤ 63) = true ∧ decide (0 ≤ x.b) = true ∧ decide (x.b ≤ 7) = false))) := by
      by_cases hp : Place x.m x.b
      · refine .inl ⟨?_, ?_, ?_, ?_, Lib.hid hp⟩ <;> (obtain ⟨⟨_, _⟩, _, _⟩ := hp; simp; assumption)
      · refine .inr ⟨Lib.hid hp, ?_⟩
        simp only [decide_eq_false_iff_not, decide_eq_true_eq]
        unfold Place at hp
        omega
    rcases hkind with k0 | ⟨k0, k1⟩ | ⟨k0, k1⟩
    · rcases hplace with ⟨p1, p2, p3, p4, hp⟩ | ⟨hp, p1 | ⟨p1, p2⟩ | ⟨p1, p2, p3⟩ | ⟨p1, p2, p3, p4⟩⟩
      ·
        go_wp2_with fail
        generalize wr.alloc _ = X0 at *
        refine (pay_any w.heap.size f x.m x.b x.n x.p _ HS.out.p HF.out).mono ?_
        rintro e X1 ⟨rfl, hP1, hG1⟩
        have HS1 := Lib.hid (HS.out.atP hP1 hG1)
        have q := HS1.out.o.five
        clear q0 q1 q2 q3 q4 hP1 hG1
        obtain ⟨q0, q1, q2, q3, q4⟩ := q
        go_wp2_with fail
        refine (rpay_any (w.heap.size + 1) f x.m x.b x.n x.p _ HS1.out.r HF.out).mono ?_
        rintro e X2 ⟨rfl, hP2, hG2⟩
        have HS2 := Lib.hid (HS1.out.atR hP2 hG2)
        have HF2 := Lib.hid (HF.out.pay x.m x.b x.n x.p)
        generalize payF f x.m x.b x.n x.p = f2 at *
        clear q0 q1 q2 q3 q4 hP2 hG2 HS HS1 HF
        have q := HS2.out.o.five
        obtain ⟨q0, q1, q2, q3, q4⟩ := q
        obtain ⟨⟨pm0, pm1⟩, pb0, pb1⟩ := id hp.out
        have hcell : X2.cell? ⟨w.heap.size + 1, spot x.m x.b, none⟩ = some (.int .i64 (f2 (spot x.m x.b))) := HS2.out.r.cell (spot_lt hp.out)
        have hrv : restV f2 x.m x.b = f2 (x.m.toNat * 8 + x.b.toNat) := rest_place hp.out
        rw [spot] at hcell
        have i3 : x.m < 64 := by omega
        have i4 : x.b < 8 := by omega
        go_upto_region 20 with fail
        go_quiet (fail)
        clear pm0 pm1 pb0 pb1 i3 i4 hcell
        have HS3 := Lib.hid (HS2.out.next (below_drewN (Below.refl _ _) nq))
        generalize X2.drewN nq = X3 at *
        clear q0 q1 q2 q3 q4 HS2
        have q := HS3.out.o.five
        obtain ⟨q0, q1, q2, q3, q4⟩ := q
        go_wp2_with fail
        refine (copy_any w.heap.size f2 _ HS3.out.p).mono ?_
        rintro e X4 ⟨rfl, hC4, hB4⟩
        have HS4 := Lib.hid (HS3.out.next hB4)
        have HC4 := Lib.hid hC4
        have HCG := Lib.hid HS3.out.o.lt
        have q := HS4.out.o.five
        clear q0 q1 q2 q3 q4 hC4 hB4 HS3
        generalize X3.heap.size = c at *
        obtain ⟨q0, q1, q2, q3, q4⟩ := q
        go_wp2_with fail
        refine (rest_any w.heap.size f2 x.m x.b _ HS4.out.p).mono ?_
        rintro e _ ⟨rfl, rfl⟩
        rw [hrv]
        go_wp2_with fail
        refine (rest_any c f2 x.m x.b _ HC4.out).mono ?_
        rintro e _ ⟨rfl, rfl⟩
        rw [hrv]
        go_wp2_with fail
        refine (back_any c f2 x.m x.b 7 _ HC4.out).mono ?_
        rintro e X6 ⟨rfl, hC6, hG6⟩
        have HS6 := Lib.hid (HS4.out.atC hG6 HCG.out)
        have q := HS6.out.o.five
        clear q0 q1 q2 q3 q4 hC6 hG6 HS4 HC4
        obtain ⟨q0, q1, q2, q3, q4⟩ := q
        go_wp2_with fail
        refine (rest_any w.heap.size f2 x.m x.b _ HS6.out.p).mono ?_
        rintro e _ ⟨rfl, rfl⟩
        rw [hrv]
        go_wp2
        refine ⟨⟨_, rfl, rfl, ⟨rfl, rfl, rfl, rfl, rfl⟩, _, rfl, ?rel⟩, ?measure⟩
        case rel => exact ⟨k + 1, f2, HK.out, by rw [wk]; rfl, HF2.out, HS6.out.p, HS6.out.r, HS6.out.b⟩
        case measure =>
          show len - (intOf (.int .i64 (wrap64 ((k : Int) + 1)))).toNat < len - (intOf (.int .i64 (k : Int))).toNat
          have hk2 := HK.out
          rw [wk]
          show len - ((k + 1 : Nat) : Int).toNat < len - ((k : Nat) : Int).toNat
          omega
      all_goals
        go_wp2_with fail
        generalize wr.alloc _ = X0 at *
        refine (pay_any w.heap.size f x.m x.b x.n x.p _ HS.out.p HF.out).mono ?_
        rintro e X1 ⟨rfl, hP1, hG1⟩
        have HS1 := Lib.hid (HS.out.atP hP1 hG1)
        have q := HS1.out.o.five
        clear q0 q1 q2 q3 q4 hP1 hG1
        obtain ⟨q0, q1, q2, q3, q4⟩ := q
        go_wp2_with fail
        refine (rpay_any (w.heap.size + 1) f x.m x.b x.n x.p _ HS1.out.r HF.out).mono ?_
        rintro e X2 ⟨rfl, hP2, hG2⟩
        have HS2 := Lib.hid (HS1.out.atR hP2 hG2)
        have HF2 := Lib.hid (HF.out.pay x.m x.b x.n x.p)
        generalize payF f x.m x.b x.n x.p = f2 at *
        clear q0 q1 q2 q3 q4 hP2 hG2 HS HS1 HF
        have q := HS2.out.o.five
        obtain ⟨q0, q1, q2, q3, q4⟩ := q
        have hrv : restV f2 x.m x.b = 0 := rest_none hp.out
        have HS3 := HS2
        clear HS2
        go_wp2_with fail
        generalize X2 = X3 at *
        refine (copy_any w.heap.size f2 _ HS3.out.p).mono ?_
        rintro e X4 ⟨rfl, hC4, hB4⟩
        have HS4 := Lib.hid (HS3.out.next hB4)
        have HC4 := Lib.hid hC4
        have HCG := Lib.hid HS3.out.o.lt
        have q := HS4.out.o.five
        clear q0 q1 q2 q3 q4 hC4 hB4 HS3
        generalize X3.heap.size = c at *
        obtain ⟨q0, q1, q2, q3, q4⟩ := q
        go_wp2_with fail
        refine (rest_any w.heap.size f2 x.m x.b _ HS4.out.p).mono ?_
        rintro e _ ⟨rfl, rfl⟩
        rw [hrv]
        go_wp2_with fail
        refine (rest_any c f2 x.m x.b _ HC4.out).mono ?_
        rintro e _ ⟨rfl, rfl⟩
        rw [hrv]
        go_wp2_with fail
        refine (back_any c f2 x.m x.b 7 _ HC4.out).mono ?_
        rintro e X6 ⟨rfl, hC6, hG6⟩
        have HS6 := Lib.hid (HS4.out.atC hG6 HCG.out)
        have q := HS6.out.o.five
        clear q0 q1 q2 q3 q4 hC6 hG6 HS4 HC4
        obtain ⟨q0, q1, q2, q3, q4⟩ := q
        go_wp2_with fail
        refine (rest_any w.heap.size f2 x.m x.b _ HS6.out.p).mono ?_
        rintro e _ ⟨rfl, rfl⟩
        rw [hrv]
        go_wp2
        refine ⟨⟨_, rfl, rfl, ⟨rfl, rfl, rfl, rfl, rfl⟩, _, rfl, ?rel⟩, ?measure⟩
        case rel => exact ⟨k + 1, f2, HK.out, by rw [wk]; rfl, HF2.out, HS6.out.p, HS6.out.r, HS6.out.b⟩
        case measure =>
          show len - (intOf (.int .i64 (wrap64 ((k : Int) + 1)))).toNat < len - (intOf (.int .i64 (k : Int))).toNat
          have hk2 := HK.out
          rw [wk]
          show len - ((k + 1 : Nat) : Int).toNat < len - ((k : Nat) : Int).toNat
          omega
    · rcases hplace with ⟨p1, p2, p3, p4, hp⟩ | ⟨hp, p1 | ⟨p1, p2⟩ | ⟨p1, p2, p3⟩ | ⟨p1, p2, p3, p4⟩⟩
      ·
        go_wp2_with fail
        generalize wr.alloc _ = X0 at *
        refine (back_any w.heap.size f x.m x.b x.n _ HS.out.p).mono ?_
        rintro e X1 ⟨rfl, hP1, hG1⟩
        have HS1 := Lib.hid (HS.out.atP hP1 hG1)
        have q := HS1.out.o.five
        clear q0 q1 q2 q3 q4 hP1 hG1
        obtain ⟨q0, q1, q2, q3, q4⟩ := q
        go_wp2_with fail
        refine (rback_any (w.heap.size + 1) f x.m x.b x.n _ HS1.out.r).mono ?_
        rintro e X2 ⟨rfl, hP2, hG2⟩
        have HS2 := Lib.hid (HS1.out.atR hP2 hG2)
        have HF2 := Lib.hid (HF.out.back x.m x.b x.n)
        generalize backF f x.m x.b x.n = f2 at *
        clear q0 q1 q2 q3 q4 hP2 hG2 HS HS1 HF
        have q := HS2.out.o.five
        obtain ⟨q0, q1, q2, q3, q4⟩ := q
        obtain ⟨⟨pm0, pm1⟩, pb0, pb1⟩ := id hp.out
        have hcell : X2.cell? ⟨w.heap.size + 1, spot x.m x.b, none⟩ = some (.int .i64 (f2 (spot x.m x.b))) := HS2.out.r.cell (spot_lt hp.out)
        have hrv : restV f2 x.m x.b = f2 (x.m.toNat * 8 + x.b.toNat) := rest_place hp.out
        rw [spot] at hcell
        have i3 : x.m < 64 := by omega
        have i4 : x.b < 8 := by omega
        go_upto_region 20 with fail
        go_quiet (fail)
        clear pm0 pm1 pb0 pb1 i3 i4 hcell
        have HS3 := Lib.hid (HS2.out.next (below_drewN (Below.refl _ _) nq))
        generalize X2.drewN nq = X3 at *
        clear q0 q1 q2 q3 q4 HS2
        have q := HS3.out.o.five
        obtain ⟨q0, q1, q2, q3, q4⟩ := q
        go_wp2_with fail
        refine (copy_any w.heap.size f2 _ HS3.out.p).mono ?_
        rintro e X4 ⟨rfl, hC4, hB4⟩
        have HS4 := Lib.hid (HS3.out.next hB4)
        have HC4 := Lib.hid hC4
        have HCG := Lib.hid HS3.out.o.lt
        have q := HS4.out.o.five
        clear q0 q1 q2 q3 q4 hC4 hB4 HS3
        generalize X3.heap.size = c at *
        obtain ⟨q0, q1, q2, q3, q4⟩ := q
        go_wp2_with fail
        refine (rest_any w.heap.size f2 x.m x.b _ HS4.out.p).mono ?_
        rintro e _ ⟨rfl, rfl⟩
        rw [hrv]
        go_wp2_with fail
        refine (rest_any c f2 x.m x.b _ HC4.out).mono ?_
        rintro e _ ⟨rfl, rfl⟩
        rw [hrv]
        go_wp2_with fail
        refine (back_any c f2 x.m x.b 7 _ HC4.out).mono ?_
        rintro e X6 ⟨rfl, hC6, hG6⟩
        have HS6 := Lib.hid (HS4.out.atC hG6 HCG.out)
        have q := HS6.out.o.five
        clear q0 q1 q2 q3 q4 hC6 hG6 HS4 HC4
        obtain ⟨q0, q1, q2, q3, q4⟩ := q
        go_wp2_with fail
        refine (rest_any w.heap.size f2 x.m x.b _ HS6.out.p).mono ?_
        rintro e _ ⟨rfl, rfl⟩
        rw [hrv]
        go_wp2
        refine ⟨⟨_, rfl, rfl, ⟨rfl, rfl, rfl, rfl, rfl⟩, _, rfl, ?rel⟩, ?measure⟩
        case rel => exact ⟨k + 1, f2, HK.out, by rw [wk]; rfl, HF2.out, HS6.out.p, HS6.out.r, HS6.out.b⟩
        case measure =>
          show len - (intOf (.int .i64 (wrap64 ((k : Int) + 1)))).toNat < len - (intOf (.int .i64 (k : Int))).toNat
          have hk2 := HK.out
          rw [wk]
          show len - ((k + 1 : Nat) : Int).toNat < len - ((k : Nat) : Int).toNat
          omega
      all_goals
        go_wp2_with fail
        generalize wr.alloc _ = X0 at *
        refine (back_any w.heap.size f x.m x.b x.n _ HS.out.p).mono ?_
        rintro e X1 ⟨rfl, hP1, hG1⟩
        have HS1 := Lib.hid (HS.out.atP hP1 hG1)
        have q := HS1.out.o.five
        clear q0 q1 q2 q3 q4 hP1 hG1
        obtain ⟨q0, q1, q2, q3, q4⟩ := q
        go_wp2_with fail
        refine (rback_any (w.heap.size + 1) f x.m x.b x.n _ HS1.out.r).mono ?_
        rintro e X2 ⟨rfl, hP2, hG2⟩
        have HS2 := Lib.hid (HS1.out.atR hP2 hG2)
        have HF2 := Lib.hid (HF.out.back x.m x.b x.n)
        generalize backF f x.m x.b x.n = f2 at *
        clear q0 q1 q2 q3 q4 hP2 hG2 HS HS1 HF
        have q := HS2.out.o.five
        obtain ⟨q0, q1, q2, q3, q4⟩ := q
        have hrv : restV f2 x.m x.b = 0 := rest_none hp.out
        have HS3 := HS2
        clear HS2
        go_wp2_with fail
        generalize X2 = X3 at *
        refine (copy_any w.heap.size f2 _ HS3.out.p).mono ?_
        rintro e X4 ⟨rfl, hC4, hB4⟩
        have HS4 := Lib.hid (HS3.out.next hB4)
        have HC4 := Lib.hid hC4
        have HCG := Lib.hid HS3.out.o.lt
        have q := HS4.out.o.five
        clear q0 q1 q2 q3 q4 hC4 hB4 HS3
        generalize X3.heap.size = c at *
        obtain ⟨q0, q1, q2, q3, q4⟩ := q
        go_wp2_with fail
        refine (rest_any w.heap.size f2 x.m x.b _ HS4.out.p).mono ?_
        rintro e _ ⟨rfl, rfl⟩
        rw [hrv]
        go_wp2_with fail
        refine (rest_any c f2 x.m x.b _ HC4.out).mono ?_
        rintro e _ ⟨rfl, rfl⟩
        rw [hrv]
        go_wp2_with fail
        refine (back_any c f2 x.m x.b 7 _ HC4.out).mono ?_
        rintro e X6 ⟨rfl, hC6, hG6⟩
        have HS6 := Lib.hid (HS4.out.atC hG6 HCG.out)
        have q := HS6.out.o.five
        clear q0 q1 q2 q3 q4 hC6 hG6 HS4 HC4
        obtain ⟨q0, q1, q2, q3, q4⟩ := q
        go_wp2_with fail
        refine (rest_any w.heap.size f2 x.m x.b _ HS6.out.p).mono ?_
        rintro e _ ⟨rfl, rfl⟩
        rw [hrv]
        go_wp2
        refine ⟨⟨_, rfl, rfl, ⟨rfl, rfl, rfl, rfl, rfl⟩, _, rfl, ?rel⟩, ?measure⟩
        case rel => exact ⟨k + 1, f2, HK.out, by rw [wk]; rfl, HF2.out, HS6.out.p, HS6.out.r, HS6.out.b⟩
        case measure =>
          show len - (intOf (.int .i64 (wrap64 ((k : Int) + 1)))).toNat < len - (intOf (.int .i64 (k : Int))).toNat
          have hk2 := HK.out
          rw [wk]
          show len - ((k + 1 : Nat) : Int).toNat < len - ((k : Nat) : Int).toNat
          omega
    · rcases hplace with ⟨p1, p2, p3, p4, hp⟩ | ⟨hp, p1 | ⟨p1, p2⟩ | ⟨p1, p2, p3⟩ | ⟨p1, p2, p3, p4⟩⟩
      ·
        go_upto_region 18 with fail
        generalize wr.alloc _ = X2 at *
        have HS2 := HS
        have HF2 := HF
        generalize f = f2 at *
        clear q0 q1 q2 q3 q4 HS HF
        have q := HS2.out.o.five
        obtain ⟨q0, q1, q2, q3, q4⟩ := q
        obtain ⟨⟨pm0, pm1⟩, pb0, pb1⟩ := id hp.out
        have hcell : X2.cell? ⟨w.heap.size + 1, spot x.m x.b, none⟩ = some (.int .i64 (f2 (spot x.m x.b))) := HS2.out.r.cell (spot_lt hp.out)
        have hrv : restV f2 x.m x.b = f2 (x.m.toNat * 8 + x.b.toNat) := rest_place hp.out
        rw [spot] at hcell
        have i3 : x.m < 64 := by omega
        have i4 : x.b < 8 := by omega
        go_upto_region 20 with fail
        go_quiet (fail)
        clear pm0 pm1 pb0 pb1 i3 i4 hcell
        have HS3 := Lib.hid (HS2.out.next (below_drewN (Below.refl _ _) nq))
        generalize X2.drewN nq = X3 at *
        clear q0 q1 q2 q3 q4 HS2
        have q := HS3.out.o.five
        obtain ⟨q0, q1, q2, q3, q4⟩ := q
        go_wp2_with fail
        refine (copy_any w.heap.size f2 _ HS3.out.p).mono ?_
        rintro e X4 ⟨rfl, hC4, hB4⟩
        have HS4 := Lib.hid (HS3.out.next hB4)
        have HC4 := Lib.hid hC4
        have HCG := Lib.hid HS3.out.o.lt
        have q := HS4.out.o.five
        clear q0 q1 q2 q3 q4 hC4 hB4 HS3
        generalize X3.heap.size = c at *
        obtain ⟨q0, q1, q2, q3, q4⟩ := q
        go_wp2_with fail
        refine (rest_any w.heap.size f2 x.m x.b _ HS4.out.p).mono ?_
        rintro e _ ⟨rfl, rfl⟩
        rw [hrv]
        go_wp2_with fail
        refine (rest_any c f2 x.m x.b _ HC4.out).mono ?_
        rintro e _ ⟨rfl, rfl⟩
        rw [hrv]
        go_wp2_with fail
        refine (back_any c f2 x.m x.b 7 _ HC4.out).mono ?_
        rintro e X6 ⟨rfl, hC6, hG6⟩
        have HS6 := Lib.hid (HS4.out.atC hG6 HCG.out)
        have q := HS6.out.o.five
        clear q0 q1 q2 q3 q4 hC6 hG6 HS4 HC4
        obtain ⟨q0, q1, q2, q3, q4⟩ := q
        go_wp2_with fail
        refine (rest_any w.heap.size f2 x.m x.b _ HS6.out.p).mono ?_
        rintro e _ ⟨rfl, rfl⟩
        rw [hrv]
        go_wp2
        refine ⟨⟨_, rfl, rfl, ⟨rfl, rfl, rfl, rfl, rfl⟩, _, rfl, ?rel⟩, ?measure⟩
        case rel => exact ⟨k + 1, f2, HK.out, by rw [wk]; rfl, HF2.out, HS6.out.p, HS6.out.r, HS6.out.b⟩
        case measure =>
          show len - (intOf (.int .i64 (wrap64 ((k : Int) + 1)))).toNat < len - (intOf (.int .i64 (k : Int))).toNat
          have hk2 := HK.out
          rw [wk]
          show len - ((k + 1 : Nat) : Int).toNat < len - ((k : Nat) : Int).toNat
          omega
      all_goals
        go_upto_region 18 with fail
        generalize wr.alloc _ = X2 at *
        have HS2 := HS
        have HF2 := HF
        generalize f = f2 at *
        clear q0 q1 q2 q3 q4 HS HF
        have q := HS2.out.o.five
        obtain ⟨q0, q1, q2, q3, q4⟩ := q
        have hrv : restV f2 x.m x.b = 0 := rest_none hp.out
        have HS3 := HS2
        clear HS2
        go_wp2_with fail
        generalize X2 = X3 at *
        refine (copy_any w.heap.size f2 _ HS3.out.p).mono ?_
        rintro e X4 ⟨rfl, hC4, hB4⟩
        have HS4 := Lib.hid (HS3.out.next hB4)
        have HC4 := Lib.hid hC4
        have HCG := Lib.hid HS3.out.o.lt
        have q := HS4.out.o.five
        clear q0 q1 q2 q3 q4 hC4 hB4 HS3
        generalize X3.heap.size = c at *
        obtain ⟨q0, q1, q2, q3, q4⟩ := q
        go_wp2_with fail
        refine (rest_any w.heap.size f2 x.m x.b _ HS4.out.p).mono ?_
        rintro e _ ⟨rfl, rfl⟩
        rw [hrv]
        go_wp2_with fail
        refine (rest_any c f2 x.m x.b _ HC4.out).mono ?_
        rintro e _ ⟨rfl, rfl⟩
        rw [hrv]
        go_wp2_with fail
        refine (back_any c f2 x.m x.b 7 _ HC4.out).mono ?_
        rintro e X6 ⟨rfl, hC6, hG6⟩
        have HS6 := Lib.hid (HS4.out.atC hG6 HCG.out)
        have q := HS6.out.o.five
        clear q0 q1 q2 q3 q4 hC6 hG6 HS4 HC4
        obtain ⟨q0, q1, q2, q3, q4⟩ := q
        go_wp2_with fail
        refine (rest_any w.heap.size f2 x.m x.b _ HS6.out.p).mono ?_
        rintro e _ ⟨rfl, rfl⟩
        rw [hrv]
        go_wp2
        refine ⟨⟨_, rfl, rfl, ⟨rfl, rfl, rfl, rfl, rfl⟩, _, rfl, ?rel⟩, ?measure⟩
        case rel => exact ⟨k + 1, f2, HK.out, by rw [wk]; rfl, HF2.out, HS6.out.p, HS6.out.r, HS6.out.b⟩
        case measure =>
          show len - (intOf (.int .i64 (wrap64 ((k : Int) + 1)))).toNat < len - (intOf (.int .i64 (k : Int))).toNat
          have hk2 := HK.out
          rw [wk]
          show len - ((k + 1 : Nat) : Int).toNat < len - ((k : Nat) : Int).toNat
          omega
end Go.Proofs.Ytbffmobjiiicoaa
