/- TariffPieces, walked. -/
import Derived.Test.YtbffmobjiiicoaaDoorTAlive
import Derived.LoopTactic
set_option linter.unusedVariables false
set_option linter.unusedSimpArgs false
namespace Go.Proofs.YtbffmobjiiicoaaDoor
open Go.RowKit Go.Shelf
/-- What a piece more makes of the whole. -/
theorem piece_step (A n p : Int) (hA : 0 ≤ A) (hn : 0 ≤ n) (hp : 0 ≤ p) :
    (A + n) * p / 1000000 = A * p / 1000000 + (n * p + A * p % 1000000) / 1000000 ∧ (A + n) * p % 1000000 = (n * p + A * p % 1000000) % 1000000 := by
  rw [Int.add_mul]
  generalize A * p = X
  generalize n * p = Y
  omega
theorem piece_bound {A p : Int} (hA : 0 ≤ A) (h : A ≤ 219902325555200) (hp : 0 ≤ p) (hp2 : p ≤ 1073741824) : 0 ≤ A * p ∧ A * p ≤ 236118324143482260684800 :=
  ⟨Int.mul_nonneg hA hp, Int.mul_le_mul h hp2 hp (by omega)⟩
theorem piece_k (A n : Int) (k : Nat) (h : A ≤ k * 1099511627776) (hn : n < 1099511627776) : A + n ≤ ((k + 1 : Nat) : Int) * 1099511627776 := by
  rw [Int.natCast_add, Int.add_mul]
  show A + n ≤ (k : Int) * 1099511627776 + 1 * 1099511627776
  omega
theorem row_cell {w : World} {a : Option Addr} {len cap : Nat} {z : List Int} (h : IsRow .u64 w a len cap z) {k : Nat} (hk : k < len) :
    ∃ b o x, a = some ⟨b, o, none⟩ ∧ b < w.heap.size ∧ 0 ≤ x ∧ x < 18446744073709551616 ∧ w.cell? ⟨b, o + k, none⟩ = some (.int .u64 x) := by
  rcases h with ⟨_, rfl, _⟩ | ⟨x, rfl, h1, h2, h3, h4, h5⟩
  · omega
  · obtain ⟨b, o, spot⟩ := x
    have c := h4 k (by omega)
    have hspot : spot = none := by
      have := World.cell?_spot (h4 0 (by omega))
      simpa [Addr.add] using this
    subst hspot
    rw [Addr.add_mid] at c
    have hm : z.getD k 0 ∈ z := by
      rw [List.getD, List.getElem?_eq_getElem (by omega)]
      exact List.getElem_mem _
    have hw := h5 _ hm
    simp [Lit.wf, IntKind.min, IntKind.max, IntKind.bits, IntKind.signed] at hw
    exact ⟨b, o, z.getD k 0, rfl, World.block_lt_of_cell? w _ c, by simp; omega, by simp; omega, c⟩
set_option maxRecDepth 20000 in
set_option maxHeartbeats 4000000 in
theorem piecesW (a : Option Addr) (len cap : Nat) (z : List Int) (p : Int) (w : World) (hT : Tabs w) (w0 : IsRow .u64 w a len cap z) (w1 : (Lit.int .i64 p).wf = true) :
    Calls Tryd.prog 4 #[.slice a len cap, .int .i64 p] w fun e w' => e = .returned (.bool true) ∧ Below w.heap.size w w' := by
  have HA := Lib.hid (alive_any w hT)
  by_cases hg : len ≤ 200 ∧ 0 ≤ p ∧ p ≤ 1073741824
  case neg =>
    have hc : decide ((200 : Int) < (len : Int)) = true ∨ (decide ((200 : Int) < (len : Int)) = false ∧ decide (p < 0) = true) ∨ (decide ((200 : Int) < (len : Int)) = false ∧ decide (p < 0) = false ∧ decide (1073741824 < p) = true) := by
      simp only [decide_eq_false_iff_not, decide_eq_true_eq]
      omega
    clear hg w0 w1 hT
    rcases hc with e1 | ⟨e1, e2⟩ | ⟨e1, e2, e3⟩
    all_goals
      go_enter Tryd.func4, Tryd.ntmps4
      go_wp2_with fail
      refine HA.out.mono ?_
      rintro e w2 ⟨rfl, hB⟩
      go_wp2
      go_ret
      exact ⟨rfl, hB⟩
  obtain ⟨h200, p0, p1⟩ := hg
  have e1 : decide ((200 : Int) < (len : Int)) = false := by simp; omega
  have e2 : decide (p < 0) = false := by simp; omega
  have e3 : decide (1073741824 < p) = false := by simp; omega
  have H2 := Lib.hid h200
  have HP := Lib.hid (And.intro p0 p1)
  have HR := Lib.hid w0
  clear h200 p0 p1 w0 w1 hT
  go_enter Tryd.func4, Tryd.ntmps4
  go_wp2_with fail
  refine HA.out.mono ?_
  rintro e X ⟨rfl, hB⟩
  have HB := Lib.hid hB
  clear hB
  go_wp2_with (refine build_purse rfl rfl ?_)
  go_loopw [8, 9, 39] (fun av sv i wr => ∃ (k : Nat) (A : Int) (f : Nat → Int), k ≤ len ∧ i = .int .i64 k ∧ av = .int .i64 A ∧ sv = .int .i64 (A * p / 1000000) ∧ 0 ≤ A ∧ A ≤ k * 1099511627776 ∧ Rests f ∧ f 42 = A * p % 1000000 ∧ PAt 54 wr X.heap.size f ∧ PAt 54 wr (X.heap.size + 1) (fun _ => 0) ∧ Below X.heap.size X wr) (fun _ _ i _ => len - (intOf i).toNat)
  case atStart =>
    have b1 := PAt.new X 54 (fun _ => 0)
    have b2 := PAt.new (X.alloc (.cells zeroP 54)) 54 (fun _ => 0)
    simp only [World.size_alloc] at b2
    exact ⟨0, 0, _, Nat.zero_le _, rfl, rfl, by simp, by omega, by omega, Rests.zero, by simp, b1.alloc _, b2, ((Below.refl _ X).alloc (Nat.le_refl _) _).alloc (by simp) _⟩
  case round =>
    obtain ⟨k, A, f, hk, rfl, rfl, rfl, hA0, hA1, hf, hf42, hP1, hP2, hB2⟩ := hrel
    have hpp := HP.out
    have h22 := H2.out
    have hA2 : A ≤ 219902325555200 := by omega
    obtain ⟨m0, m1⟩ := piece_bound hA0 hA2 hpp.1 hpp.2
    by_cases hlt : k < len
    · have hd : decide (k < len) = true := by simpa using hlt
      obtain ⟨b, o, x, rfl, hb, x0, x1, c0⟩ := row_cell HR.out hlt
      have hbX := HB.out.size
      have hcX : wr.cell? ⟨b, o + k, none⟩ = some (.int .u64 x) := (hB2.cell (p := ⟨b, o + k, none⟩) (by show b < X.heap.size; omega)).trans ((HB.out.cell (p := ⟨b, o + k, none⟩) hb).trans c0)
      have i1 : (k : Int) < len := by omega
      obtain ⟨n, hn⟩ : ∃ n, x % 1099511627776 = n := ⟨_, rfl⟩
      have hn1 : IntKind.u64.wrap (x.tmod 1099511627776) = n := by rw [Int.tmod_eq_emod_of_nonneg x0, IntKind.wrap_u64]; omega
      have hn2 : x.tmod 1099511627776 = n := by rw [Int.tmod_eq_emod_of_nonneg x0]; omega
      have n0 : 0 ≤ n := by omega
      have n1 : n < 1099511627776 := by omega
      have hn3 : wrap64 n = n := by unfold wrap64; omega
      obtain ⟨j0, j1⟩ := piece_bound n0 (by omega) hpp.1 hpp.2
      obtain ⟨s1, s2⟩ := piece_step A n p hA0 n0 hpp.1
      have hA3 : A + n ≤ 219902325555200 := by omega
      have hAn : 0 ≤ A + n := by omega
      obtain ⟨q0, q1⟩ := piece_bound (A := A + n) (by omega) hA3 hpp.1 hpp.2
      have hfr : f (spot 5 2) = A * p % 1000000 := hf42
      have hz : payX f 5 2 n p = n * p + A * p % 1000000 := by unfold payX; rw [hfr]
      obtain ⟨y1, y2, y3⟩ := pay_yes (f := f) (m := 5) (b := 2) (n := n) (p := p) ⟨by unfold PayArg Place; omega, by rw [hz]; omega⟩
      have hcost : (n * p + A * p % 1000000) / 1000000 = (A + n) * p / 1000000 - A * p / 1000000 := by omega
      rw [hz, hcost] at y1
      rw [hz, ← s2] at y3
      obtain ⟨C, hC⟩ : ∃ C, (A + n) * p / 1000000 - A * p / 1000000 = C := ⟨_, rfl⟩
      rw [hC] at y1
      have hC0 : decide (C < 0) = false := by simp; omega
      have wA : wrap64 (A + n) = A + n := by unfold wrap64; omega
      have wS : wrap64 (A * p / 1000000 + C) = (A + n) * p / 1000000 := by unfold wrap64; omega
      have wk : wrap64 ((k : Int) + 1) = ((k + 1 : Nat) : Int) := by unfold wrap64; omega
      have Y1 := Lib.hid y1
      have Y2 := Lib.hid y2
      have Y3 := Lib.hid y3
      have HP1 := Lib.hid hP1
      have HP2 := Lib.hid hP2
      have HBB := Lib.hid hB2
      have HF := Lib.hid hf
      have HK := Lib.hid (show k + 1 ≤ len ∧ 0 ≤ A + n ∧ A + n ≤ ((k + 1 : Nat) : Int) * 1099511627776 from ⟨hlt, hAn, piece_k A n k hA1 n1⟩)
      have HX0 := Lib.hid x0
      have HWS := Lib.hid wS
      have HWA := Lib.hid wA
      clear hk hA0 hA1 hf hf42 hP1 hP2 hB2 hpp h22 hA2 m0 m1 hlt hz y1 y2 y3 hfr hb x0 x1 c0 hbX hn n0 n1 j0 j1 s1 s2 hA3 hAn q0 q1 hcost hC wS wA
      go_wp2_with fail
      refine (pay_any X.heap.size f 5 2 n p wr HP1.out HF.out).mono ?_
      rintro e W1 ⟨rfl, hP3, hG⟩
      rw [Y1.out, Y2.out]
      rw [Y3.out] at hP3
      have HP3 := Lib.hid hP3
      have HP4 := Lib.hid (HP2.out.far hG (by omega))
      have HB4 := Lib.hid (below_grown HBB.out hG (Nat.le_of_lt HP1.out.lt) (Nat.le_refl _))
      have HF2 := Lib.hid (Y3.out ▸ HF.out.pay 5 2 n p)
      clear hP3 hG
      go_wp2
      go_roundw
      case rel =>
        refine ⟨k + 1, A + n, _, HK.out.1, by first | rfl | rw [wk], by rw [HWA.out], by rw [HWS.out], HK.out.2.1, HK.out.2.2, HF2.out, by simp [upd, spot], HP3.out, HP4.out, HB4.out⟩
      case measure =>
        have hk2 := HK.out.1
        first
          | (show len - (intOf (.int .i64 (wrap64 ((k : Int) + 1)))).toNat < len - (intOf (.int .i64 (k : Int))).toNat; rw [wk])
          | (show len - (intOf (.int .i64 ((k + 1 : Nat) : Int))).toNat < len - (intOf (.int .i64 (k : Int))).toNat)
        show len - ((k + 1 : Nat) : Int).toNat < len - ((k : Nat) : Int).toNat
        omega
    · have hd : decide (k < len) = false := by simp; omega
      have hz : payX (fun _ => 0) 5 2 A p = A * p := by
        show A * p + (0 : Int) = A * p
        omega
      obtain ⟨y1, y2, y3⟩ := pay_yes (f := fun _ => 0) (m := 5) (b := 2) (n := A) (p := p) ⟨by unfold PayArg Place; omega, by rw [hz]; omega⟩
      rw [hz] at y1 y3
      have hfr : f (spot 5 2) = A * p % 1000000 := hf42
      have hr1 : restV f 5 2 = A * p % 1000000 := by rw [restV, if_pos (by decide), hfr]
      have hr2 : restV (upd (fun _ => 0) (spot 5 2) (A * p % 1000000)) 5 2 = A * p % 1000000 := by rw [restV, if_pos (by decide)]; simp [upd]
      have hlm : decide (A * p % 1000000 < 1000000) = true := by simp; omega
      have Y1 := Lib.hid y1
      have Y2 := Lib.hid y2
      have Y3 := Lib.hid y3
      have HP1 := Lib.hid hP1
      have HP2 := Lib.hid hP2
      have HBB := Lib.hid hB2
      have HF := Lib.hid hf
      have HR1 := Lib.hid hr1
      have HR2 := Lib.hid hr2
      clear hk hA0 hA1 hf hf42 hP1 hP2 hB2 hpp h22 hA2 m0 m1 hlt hz y1 y2 y3 hfr hr1 hr2
      generalize A * p % 1000000 = r at *
      generalize A * p / 1000000 = q at *
      go_wp2_with fail
      refine (pay_any (X.heap.size + 1) (fun _ => 0) 5 2 A p wr HP2.out Rests.zero).mono ?_
      rintro e W1 ⟨rfl, hP3, hG⟩
      rw [Y1.out, Y2.out]
      rw [Y3.out] at hP3
      have HP3 := Lib.hid hP3
      have HP4 := Lib.hid (HP1.out.far hG (by omega))
      have HB4 := Lib.hid (below_grown HBB.out hG (Nat.le_of_lt HP1.out.lt) (by omega))
      clear hP3 hG
      go_wp2_with fail
      refine (rest_any X.heap.size f 5 2 W1 HP4.out).mono ?_
      rintro e _ ⟨rfl, rfl⟩
      rw [HR1.out]
      go_wp2_with fail
      refine (rest_any (X.heap.size + 1) _ 5 2 W1 HP3.out).mono ?_
      rintro e _ ⟨rfl, rfl⟩
      rw [HR2.out]
      go_wp2_with fail
      refine (rest_any X.heap.size f 5 2 W1 HP4.out).mono ?_
      rintro e _ ⟨rfl, rfl⟩
      rw [HR1.out]
      go_wp2
      go_ret
      exact ⟨rfl, HB.out.trans (HB4.out.mono HB.out.size)⟩
end Go.Proofs.YtbffmobjiiicoaaDoor
