/- The statement BandsDay, walked. -/
import Derived.Test.YtmbimnphdhmapaaBPlansW
set_option linter.unusedVariables false
set_option linter.unusedSimpArgs false
namespace Go.Proofs.Ytmbimnphdhmapaa
open Go.RowKit Go.Shelf
def sumF (F : Int → Int) : Nat → Int
  | 0 => 0
  | k + 1 => sumF F k + F k
theorem sumF_bounds {F : Int → Int} (h : ∀ k : Nat, 0 ≤ F k ∧ F k ≤ 1440) (k : Nat) : 0 ≤ sumF F k ∧ sumF F k ≤ 1440 * k := by
  induction k with
  | zero => exact ⟨Int.le_refl _, Int.le_refl _⟩
  | succ k ih =>
    have := h k
    unfold sumF
    omega
theorem sum_runs {f : Int → Int} {c d : Int} : ∀ {l : List St} {a : Int}, Runs f a l c d → (∀ s ∈ l, 0 ≤ s.d ∧ s.d ≤ 7) → sumF (mins l) 8 = c - a
  | [], a, h, _ => by
    have e : a = c := h
    simp [sumF, mins]; omega
  | s :: r, a, h, hd => by
    obtain ⟨h1, h2, h3, h4, h5⟩ := h
    have ih := sum_runs h5 (fun t ht => hd t (by simp [ht]))
    have hs := hd s (by simp)
    obtain ⟨sb, se, sd⟩ := s
    simp only at h1 h2 hs ih
    rcases (by omega : sd = 0 ∨ sd = 1 ∨ sd = 2 ∨ sd = 3 ∨ sd = 4 ∨ sd = 5 ∨ sd = 6 ∨ sd = 7) with rfl | rfl | rfl | rfl | rfl | rfl | rfl | rfl <;>
      simp [sumF, mins] at ih ⊢ <;> omega
theorem sum_strs {L : Nat → Sw} {len : Nat} (hp : PlanIs L len) : sumF (mins (strs L len)) 8 = 1440 := by
  have := sum_runs (runs_all hp) (fun s hs => by have := strs_in hp hs; omega)
  omega
theorem shC_cell {W : World} {B : Nat} {f : Int → Int} {T : TypeId} {fr : Nat × Nat} (h : W.heap[B]? = some (.cells (shC f) T fr)) (k : Nat) (hk : k < 8) : W.cell? ⟨B, k, none⟩ = some (.int .i64 (f k)) := by
  rcases (by omega : k = 0 ∨ k = 1 ∨ k = 2 ∨ k = 3 ∨ k = 4 ∨ k = 5 ∨ k = 6 ∨ k = 7) with rfl | rfl | rfl | rfl | rfl | rfl | rfl | rfl
  · exact cell_of_row W B 0 _ _ _ h
  · exact cell_of_row W B 1 _ _ _ h
  · exact cell_of_row W B 2 _ _ _ h
  · exact cell_of_row W B 3 _ _ _ h
  · exact cell_of_row W B 4 _ _ _ h
  · exact cell_of_row W B 5 _ _ _ h
  · exact cell_of_row W B 6 _ _ _ h
  · exact cell_of_row W B 7 _ _ _ h
theorem shC_put (pre : List St) (s : St) (b : Nat) (hb : s.d = b) (h8 : b < 8) : (shC (mins pre)).setIfInBounds b (.int .i64 (mins pre b + s.e - s.b)) = shC (mins (pre ++ [s])) := by
  have hm := fun j => mins_snoc pre s j
  have ea : ∀ x y z : Int, x + (y - z) = x + y - z := fun x y z => by omega
  rcases (by omega : b = 0 ∨ b = 1 ∨ b = 2 ∨ b = 3 ∨ b = 4 ∨ b = 5 ∨ b = 6 ∨ b = 7) with rfl | rfl | rfl | rfl | rfl | rfl | rfl | rfl <;>
    simp [shC, hm, hb, ea]
/-- A walk over the day: what has been passed, and what is still ahead. -/
structure DayAt (L : Nat → Sw) (len : Nat) (pre : List St) (x : Int) : Prop where
  split : ∃ rest, strs L len = pre ++ rest ∧ Runs (bandN L len) x rest 1440 (-1)
theorem day_start {L : Nat → Sw} {len : Nat} (hp : PlanIs L len) : DayAt L len [] 0 := ⟨_, rfl, runs_all hp⟩
/-- One step: the stretch at x. -/
theorem day_step {L : Nat → Sw} {len : Nat} (hp : PlanIs L len) {pre : List St} {x : Int} (h : DayAt L len pre x) (hx : x < 1440) (h0 : 0 ≤ x) :
    ∃ s : St, s.b = x ∧ x < s.e ∧ s.e ≤ 1440 ∧ 0 ≤ s.d ∧ s.d ≤ 7 ∧ bandN L len x = s.d ∧ bandN L len (s.e - 1) = s.d ∧ (s.e = 1440 → BNext L len x 0 false) ∧ (s.e ≠ 1440 → BNext L len x s.e true) ∧ DayAt L len (pre ++ [s]) s.e ∧ (s.e = 1440 → strs L len = pre ++ [s]) ∧ pre ++ [s] <+: strs L len := by
  obtain ⟨rest, hs, hr⟩ := h
  match rest, hr with
  | [], hr => have e : x = 1440 := hr; omega
  | s :: r, hr =>
    have hin := strs_in hp (s := s) (by rw [hs]; simp)
    obtain ⟨h1, h2, h3, h4, h5⟩ := hr
    have hle := Runs.le h5
    have hx2 : bandN L len x = s.d := h3 x (by omega) (by omega)
    refine ⟨s, h1, by omega, hle, hin.2.2.2.1, hin.2.2.2.2, hx2, h3 _ (by omega) (by omega), fun e => .inr ⟨rfl, rfl, fun j g0 g1 => ?_⟩, fun e => .inl ⟨rfl, by omega, by omega, ?_, fun j g0 g1 => ?_⟩, ⟨r, by rw [hs]; simp, h5⟩, fun e => ?_, ⟨r, by rw [hs]; simp⟩⟩
    · rw [hx2]; exact h3 j (by omega) (by omega)
    · rw [hx2]
      cases r with
      | nil => have q : s.e = 1440 := h5; omega
      | cons t r =>
        obtain ⟨k1, k2, k3, _, _⟩ := h5
        rw [k3 s.e (by omega) (by omega)]
        exact h4
    · rw [hx2]; exact h3 j (by omega) (by omega)
    · cases r with
      | nil => exact hs
      | cons t r =>
        obtain ⟨k1, k2, k3, _, k5⟩ := h5
        have := Runs.le k5
        omega
set_option maxRecDepth 100000 in
set_option maxHeartbeats 8000000 in
theorem dayW (a : Option Addr) (len cap : Nat) (L : Nat → Sw) (w : World) (hw : (len ≤ cap ∧ cap ≤ maxLen) ∧ SwsAt w.heap.size w a len L) :
    Calls Try.prog 5 #[.slice a len cap] w fun e w' => e = .returned (.bool true) ∧ Below w.heap.size w w' := by
  have hlm : len ≤ maxLen := by omega
  obtain ⟨_, hA⟩ := hw
  have HAL := Lib.hid (alive_any w)
  by_cases h1 : 60 < len
  · have g1 : (60 : Int) < len := by omega
    clear hA
    go_enter Try.func5, Try.ntmps5
    go_wp2_with fail
    refine HAL.out.mono ?_
    rintro e w1 ⟨rfl, hB1⟩
    have HB1 := Lib.hid hB1
    clear hB1
    go_wp2
    go_ret
    exact ⟨rfl, HB1.out⟩
  have g1 : ¬ (60 : Int) < len := by omega
  have HA := Lib.hid (fun (W : World) (hB : Below w.heap.size w W) => (hA.next hB (Nat.le_refl _) (Nat.le_refl _)).mono hB.size)
  have HC := Lib.hid (fun (W : World) (hB : Below w.heap.size w W) => checkPlan_any a len cap L W (HA.out W hB) hlm)
  by_cases hp : PlanIs L len
  · rw [pErr_yes hp] at HC
    have HSH := Lib.hid (fun (W : World) (hB : Below w.heap.size w W) => share_yes a len cap L W (HA.out W hB) hlm hp)
    have HBD := Lib.hid (fun (x : Int) (hx : InDay x) (W : World) (hB : Below w.heap.size w W) => band_yes a len cap L x W (HA.out W hB) hlm hp hx)
    have HNX := Lib.hid (fun (x : Int) (hx : InDay x) (W : World) (hB : Below w.heap.size w W) => next_yes a len cap L x W (HA.out W hB) hlm hp hx)
    have hFb : ∀ k : Nat, 0 ≤ mins (strs L len) k ∧ mins (strs L len) k ≤ 1440 := fun k => by
      have h1 := mins_all hp k
      have h2 := cntN_le L len k 1440
      omega
    have HSUM := Lib.hid (sum_strs hp)
    have HP := Lib.hid hp
    obtain ⟨F, hF⟩ : ∃ F, mins (strs L len) = F := ⟨_, rfl⟩
    rw [hF] at HSH hFb HSUM
    have HF := Lib.hid hF
    have HFB := Lib.hid hFb
    clear hA HA hlm hp h1 hF hFb
    go_enter Try.func5, Try.ntmps5
    go_wp2_with fail
    refine HAL.out.mono ?_
    rintro e w1 ⟨rfl, hB1⟩
    have C1 := Lib.hid hB1
    clear hB1
    go_wp2_with fail
    refine (HC.out _ C1.out).mono ?_
    rintro e w2 ⟨rfl, hB2⟩
    have C2 := Lib.hid (C1.out.trans (hB2.mono C1.out.size))
    clear hB2 C1
    go_wp2_with fail
    refine (HSH.out _ C2.out).mono ?_
    rintro e w3 ⟨rfl, hB3⟩
    have C3 := Lib.hid (C2.out.trans (hB3.mono C2.out.size))
    clear hB3 C2 HAL HC HSH
    have hz := heap_alloc_new w3 (.cells (shC F) 31)
    have hb3 := C3.out.alloc C3.out.size (.cells (shC F) 31)
    have hsz := World.size_alloc w3 (.cells (shC F) 31)
    have HZ := Lib.hid hz
    have HB3 := Lib.hid hb3
    have HS3 := Lib.hid C3.out.size
    clear hz hb3
    unfold shC at *
    go_wp2_with fail
    go_loopw [4, 32] (fun v i wr => ∃ k : Nat, k ≤ 8 ∧ i = .int .i64 k ∧ v = .int .i64 (sumF F k) ∧ wr.heap[w3.heap.size]? = some (.cells (shC F) 31 (0, 0)) ∧ Below w.heap.size w wr) (fun _ i _ => (8 - intOf i).toNat)
    case atStart => exact ⟨0, Nat.zero_le _, rfl, rfl, HZ.out, HB3.out⟩
    case round =>
      obtain ⟨k, hk, rfl, rfl, hz, hb⟩ := hrel
      have D0 := Lib.hid hb
      have HZ0 := Lib.hid hz
      have hzl := (Array.getElem?_eq_some_iff.1 hz).1
      clear hb HZ HB3 C3
      by_cases hlt : k < 8
      · have hlti : (k : Int) < 8 := by omega
        have hc := shC_cell hz k hlt
        have hfk := HFB.out k
        have hsb := sumF_bounds HFB.out k
        obtain ⟨f, hf⟩ : ∃ f, F k = f := ⟨_, rfl⟩
        obtain ⟨t, ht⟩ : ∃ t, sumF F k = t := ⟨_, rfl⟩
        rw [hf] at hc hfk
        rw [ht] at hsb ⊢
        obtain ⟨hfk0, hfk1⟩ := hfk
        obtain ⟨hsb0, hsb1⟩ := hsb
        have HST := Lib.hid (show sumF F (k + 1) = t + f by rw [← hf, ← ht]; rfl)
        clear hf ht hz
        go_wp2
        go_roundw
        case rel => exact ⟨k + 1, by omega, by go_num, by rw [HST.out], HZ0.out, D0.out⟩
        case measure => first | (simp [intOf]; done) | (simp [intOf]; omega)
      · obtain rfl : k = 8 := by omega
        rw [HSUM.out]
        have hz2 := heap_old hz (.cells z8 31)
        have hm2 := heap_alloc_new wr (.cells z8 31)
        have hd2 := D0.out.alloc D0.out.size (.cells z8 31)
        have hs2 := World.size_alloc wr (.cells z8 31)
        have HZ2 := Lib.hid hz2
        have HM2 := Lib.hid hm2
        have D2 := Lib.hid hd2
        have HS0 := Lib.hid D0.out.size
        clear hz hz2 hm2 hd2 HZ0 D0 hk
        obtain ⟨wo, rfl⟩ : ∃ wo : World, wo = wr := ⟨_, rfl⟩
        go_wp2_with fail
        go_loopw [8, 9] (fun at_ n w4 => ∃ (pre : List St) (x : Int), at_ = .int .i64 x ∧ n = .int .i64 pre.length ∧ (0 ≤ x ∧ x < 1440) ∧ pre.length ≤ 49 ∧ DayAt L len pre x ∧ w4.heap[w3.heap.size]? = some (.cells (shC F) 31 (0, 0)) ∧ w4.heap[wo.heap.size]? = some (.cells (shC (mins pre)) 31 (0, 0)) ∧ Below w.heap.size w w4) (fun at_ _ _ => (1440 - intOf at_).toNat)
        case atStart => exact ⟨[], 0, rfl, rfl, by omega, by simp, day_start HP.out, HZ2.out, HM2.out, D2.out⟩
        case round =>
          obtain ⟨pre, x, rfl, rfl, ⟨hx0, hx1⟩, hpl, hday, hzs, hzm, hb⟩ := hrel
          obtain ⟨s, e1, e2, e3, e4, e5, e6, e7, e8, e9, e10, e11, e12⟩ := day_step HP.out hday hx1 hx0
          obtain ⟨sb, se, sd⟩ := s
          simp only at e1 e2 e3 e4 e5 e6 e7 e8 e9 e10 e11
          obtain ⟨b, hbd⟩ : ∃ b : Nat, sd = b := ⟨sd.toNat, by omega⟩
          subst hbd
          subst e1
          have hb8 : b < 8 := by omega
          have hbi : (b : Int) < 8 := by omega
          have kb := HBD.out sb ⟨hx0, by omega⟩
          have kl := HBD.out (se - 1) ⟨by omega, by omega⟩
          rw [e6] at kb
          rw [e7] at kl
          have KB := Lib.hid kb
          have KL := Lib.hid kl
          have KN := Lib.hid (HNX.out sb ⟨hx0, by omega⟩)
          obtain ⟨hm0, hm1⟩ := mins_pre HP.out e12 b
          obtain ⟨m, hm⟩ : ∃ m, mins pre b = m := ⟨_, rfl⟩
          rw [hm] at hm0 hm1
          have hput := shC_put pre ⟨sb, se, (b : Int)⟩ b rfl hb8
          rw [hm] at hput
          simp only at hput
          have HPUT := Lib.hid hput
          obtain ⟨N, hN⟩ : ∃ N, pre.length = N := ⟨_, rfl⟩
          have hN1 : (pre ++ [(⟨sb, se, (b : Int)⟩ : St)]).length = N + 1 := by simp [hN]
          have hN49 : N + 1 ≤ 49 := by
            have h1 := e12.length_le
            have h2 := strs_len L len
            have h3 := HP.out.2.1
            omega
          rw [hN] at hpl ⊢
          have hzl4 := (Array.getElem?_eq_some_iff.1 hzs).1
          have hml4 := (Array.getElem?_eq_some_iff.1 hzm).1
          have D0 := Lib.hid hb
          have HZS := Lib.hid hzs
          have HZM := Lib.hid hzm
          have HD10 := Lib.hid e10
          have HN1 := Lib.hid hN1
          have hne : wo.heap.size ≠ w3.heap.size := by omega
          clear hzs hzm hb hday HZ2 HM2 D2 kb kl hput e10 hN1 hs2 hsz e6 e7 HBD HNX
          by_cases he : se = 1440
          · have HNB := Lib.hid (e8 he)
            have HFIN := Lib.hid (e11 he)
            subst he
            clear e8 e9 e11 e12
            go_wp2_with fail
            refine (KB.out _ D0.out).mono ?_
            rintro e w5 ⟨rfl, hB5⟩
            have zs5 := (hB5.block w3.heap.size hzl4).trans HZS.out
            have zm5 := (hB5.block wo.heap.size hml4).trans HZM.out
            have hs5 := hB5.size
            have ZS5 := Lib.hid zs5
            have ZM5 := Lib.hid zm5
            have D1 := Lib.hid (D0.out.trans (hB5.mono D0.out.size))
            clear hB5 D0 zs5 zm5 HZS HZM
            go_wp2_with fail
            refine (KN.out _ D1.out).mono ?_
            rintro e w6 ⟨⟨n, is, hn, rfl⟩, hB6⟩
            obtain ⟨rfl, rfl⟩ := hn.unique HNB.out
            have zs6 := (hB6.block w3.heap.size (by omega)).trans ZS5.out
            have zm6 := (hB6.block wo.heap.size (by omega)).trans ZM5.out
            have hs6 := hB6.size
            have ZS6 := Lib.hid zs6
            have ZM6 := Lib.hid zm6
            have D2 := Lib.hid (D1.out.trans (hB6.mono D1.out.size))
            clear hB6 D1 zs6 zm6 ZS5 ZM5 hn
            go_wp2_with fail
            refine (KL.out _ D2.out).mono ?_
            rintro e w7 ⟨rfl, hB7⟩
            have zs7 := (hB7.block w3.heap.size (by omega)).trans ZS6.out
            have zm7 := (hB7.block wo.heap.size (by omega)).trans ZM6.out
            have hs7 := hB7.size
            have D3 := Lib.hid (D2.out.trans (hB7.mono D2.out.size))
            have hcm := shC_cell zm7 b hb8
            rw [hm] at hcm
            have hfm := frozen_of_row w7 wo.heap.size b _ _ zm7
            have hset : (w7.setCell ⟨wo.heap.size, b, none⟩ (.int .i64 (m + 1440 - sb))).heap[wo.heap.size]? = some (.cells (shC F) 31 (0, 0)) := by
              have h := heap_setCell_same w7 wo.heap.size b _ _ (.int .i64 (m + 1440 - sb)) zm7
              rw [HPUT.out, ← HFIN.out, HF.out] at h
              exact h
            have hset2 : (w7.setCell ⟨wo.heap.size, b, none⟩ (.int .i64 (m + 1440 - sb))).heap[w3.heap.size]? = some (.cells (shC F) 31 (0, 0)) := (heap_setCell_other _ ⟨wo.heap.size, b, none⟩ w3.heap.size _ (by show w3.heap.size ≠ wo.heap.size; omega)).trans zs7
            obtain ⟨a0, a1, a2, a3, a4, a5, a6, a7⟩ := cells8 hset
            obtain ⟨c0, c1, c2, c3, c4, c5, c6, c7⟩ := cells8 hset2
            have heq := eql_a8 (F 0) (F 1) (F 2) (F 3) (F 4) (F 5) (F 6) (F 7) (w7.setCell ⟨wo.heap.size, b, none⟩ (.int .i64 (m + 1440 - sb)))
            have D4 := Lib.hid (D3.out.setCell (p := ⟨wo.heap.size, b, none⟩) HS0.out (.int .i64 (m + 1440 - sb)))
            clear hB7 D2 D3 ZS6 ZM6 zm7 zs7 hset hset2
            go_wp2
            go_ret
            exact ⟨rfl, D4.out⟩
          · have HNB := Lib.hid (e9 he)
            clear e8 e9 e11 e12
            go_wp2_with fail
            refine (KB.out _ D0.out).mono ?_
            rintro e w5 ⟨rfl, hB5⟩
            have zs5 := (hB5.block w3.heap.size hzl4).trans HZS.out
            have zm5 := (hB5.block wo.heap.size hml4).trans HZM.out
            have hs5 := hB5.size
            have ZS5 := Lib.hid zs5
            have ZM5 := Lib.hid zm5
            have D1 := Lib.hid (D0.out.trans (hB5.mono D0.out.size))
            clear hB5 D0 zs5 zm5 HZS HZM
            go_wp2_with fail
            refine (KN.out _ D1.out).mono ?_
            rintro e w6 ⟨⟨n, is, hn, rfl⟩, hB6⟩
            obtain ⟨rfl, rfl⟩ := hn.unique HNB.out
            have zs6 := (hB6.block w3.heap.size (by omega)).trans ZS5.out
            have zm6 := (hB6.block wo.heap.size (by omega)).trans ZM5.out
            have hs6 := hB6.size
            have ZS6 := Lib.hid zs6
            have ZM6 := Lib.hid zm6
            have D2 := Lib.hid (D1.out.trans (hB6.mono D1.out.size))
            clear hB6 D1 zs6 zm6 ZS5 ZM5 hn
            go_wp2_with fail
            refine (KL.out _ D2.out).mono ?_
            rintro e w7 ⟨rfl, hB7⟩
            have zs7 := (hB7.block w3.heap.size (by omega)).trans ZS6.out
            have zm7 := (hB7.block wo.heap.size (by omega)).trans ZM6.out
            have hs7 := hB7.size
            have D3 := Lib.hid (D2.out.trans (hB7.mono D2.out.size))
            have hcm := shC_cell zm7 b hb8
            rw [hm] at hcm
            have hfm := frozen_of_row w7 wo.heap.size b _ _ zm7
            have hset : (w7.setCell ⟨wo.heap.size, b, none⟩ (.int .i64 (m + n - sb))).heap[wo.heap.size]? = some (.cells (shC (mins (pre ++ [⟨sb, n, (b : Int)⟩]))) 31 (0, 0)) := by
              have h := heap_setCell_same w7 wo.heap.size b _ _ (.int .i64 (m + n - sb)) zm7
              rw [HPUT.out] at h
              exact h
            have HSET := Lib.hid hset
            have HSET2 := Lib.hid ((heap_setCell_other w7 ⟨wo.heap.size, b, none⟩ w3.heap.size (.int .i64 (m + n - sb)) (by show w3.heap.size ≠ wo.heap.size; omega)).trans zs7)
            have D4 := Lib.hid (D3.out.setCell (p := ⟨wo.heap.size, b, none⟩) HS0.out (.int .i64 (m + n - sb)))
            clear hB7 D2 D3 ZS6 ZM6 zm7 zs7 hset
            go_wp2
            refine ⟨?_, ?measure⟩
            iterate 56 apply Exists.intro
            refine ⟨?rel, rfl⟩
            case rel => exact ⟨pre ++ [⟨sb, n, (b : Int)⟩], n, rfl, by rw [HN1.out]; go_num, by omega, by rw [HN1.out]; exact hN49, HD10.out, HSET2.out, HSET.out, D4.out⟩
            case measure => first | (simp [intOf]; done) | (simp [intOf]; omega)
  · rw [pErr_no hp] at HC
    clear hA HA hlm hp h1
    go_enter Try.func5, Try.ntmps5
    go_wp2_with fail
    refine HAL.out.mono ?_
    rintro e w1 ⟨rfl, hB1⟩
    have C1 := Lib.hid hB1
    clear hB1
    go_wp2_with fail
    refine (HC.out _ C1.out).mono ?_
    rintro e w2 ⟨rfl, hB2⟩
    have C2 := Lib.hid (C1.out.trans (hB2.mono C1.out.size))
    clear hB2 C1
    go_wp2
    go_ret
    exact ⟨rfl, C2.out⟩
end Go.Proofs.Ytmbimnphdhmapaa
