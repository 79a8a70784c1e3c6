/- The iterator holidaysIn. -/
import Derived.Test.YtgedcfgmfhlkdaaDoorHNear
import Derived.Test.YtgedcfgmfhlkdaaDoorHMap
import Derived.Test.YtgedcfgmfhlkdaaDoorKMonths
set_option linter.unusedVariables false
set_option linter.unusedSimpArgs false
namespace Go.Proofs.YtgedcfgmfhlkdaaDoor
open Go.RowKit Go.Shelf
attribute [local go_sem] Oper.semAt_some
abbrev DayE := { x : Int // 0 ≤ x ∧ x ≤ 2932896 }
def encE (x : DayE) : Array Value := #[.int .i64 x.1]
def toE (xs : List Int) : List DayE := xs.filterMap fun x => if h : 0 ≤ x ∧ x ≤ 2932896 then some ⟨x, h⟩ else none
theorem toE_nil : toE [] = [] := rfl
theorem toE_append (a b : List Int) : toE (a ++ b) = toE a ++ toE b := by simp [toE, List.filterMap_append]
theorem toE_one {x : Int} (h : 0 ≤ x ∧ x ≤ 2932896) : toE [x] = [⟨x, h⟩] := by simp [toE, h]
theorem toE_map : ∀ {xs : List Int}, (∀ x ∈ xs, 0 ≤ x ∧ x ≤ 2932896) → (toE xs).map Subtype.val = xs
  | [], _ => rfl
  | x :: r, h => by
    rw [show x :: r = [x] ++ r from rfl, toE_append, toE_one (h x (by simp)), List.map_append, toE_map (fun y hy => h y (by simp [hy]))]
    rfl
def hdL (H : Nat → Ho) (y : Int) (k : Nat) : List DayE := toE (hds H y k)
theorem hdL_succ (H : Nat → Ho) (y : Int) (k : Nat) : hdL H y (k + 1) = hdL H y k ++ toE (hoDays (H k) y) := by simp [hdL, hds, toE_append]
theorem hdL_prefix (H : Nat → Ho) (y : Int) {k n : Nat} (h : k ≤ n) : hdL H y k <+: hdL H y n := by
  induction n with
  | zero => obtain rfl : k = 0 := by omega
            exact List.prefix_refl _
  | succ n ih =>
    rcases Nat.lt_or_ge n k with hl | hl
    · obtain rfl : k = n + 1 := by omega
      exact List.prefix_refl _
    · exact (ih hl).trans (by rw [hdL_succ]; exact List.prefix_append _ _)
theorem hdL_map {H : Nat → Ho} {y : Int} (h0 : 1970 ≤ y) (h1 : y ≤ 9999) (k : Nat) : (hdL H y k).map Subtype.val = hds H y k :=
  toE_map fun x hx => by
    have a := hds_in h0 h1 hx
    have b := year_days h0 h1
    omega
theorem yd_yes {y Y M D : Int} (h : May Y M D) (e : Y = y) : yd y Y M D = [dayOf Y M D] := by unfold yd; rw [if_pos ⟨h, e⟩]
theorem yd_no {y Y M D : Int} (h : ¬ (May Y M D ∧ Y = y)) : yd y Y M D = [] := by unfold yd; rw [if_neg h]
theorem index_0 (a b c d e f : Int) (w : World) : (Instr.index 84 (.agg (hoC a b c d e f)) (.int .i64 0)).run Tryd.prog w = .ok (dateV a b c) w := by
  have h := Tryd.underlying84
  simp [Instr.index, go_sem, run_underlying h]
theorem index_1 (a b c d e f : Int) (w : World) : (Instr.index 84 (.agg (hoC a b c d e f)) (.int .i64 1)).run Tryd.prog w = .ok (dateV d e f) w := by
  have h := Tryd.underlying84
  simp [Instr.index, go_sem, run_underlying h]
set_option maxRecDepth 100000 in
set_option maxHeartbeats 4000000 in
theorem hol1_in (n : Nat) (hn : 1 ≤ n) (l Bc By n₀ : Nat) (ha : Option Addr) (hl hc : Nat) (sa : Option Addr) (sl sc : Nat) (H : Nat → Ho) (y : Int) (hlm : hl ≤ 100) (hho : ∀ i, i < hl → HoIs (H i)) (hy0 : 1970 ≤ y) (hy1 : y ≤ 9999) (hBc : Bc < n₀) (hBy : By < n₀) (h0n : 0 < n₀) (J Jx : List DayE → World → Prop)
    (hY : ∀ pre x W, J pre W → pre.length < (hdL H y hl).length → YieldAt Fence.wide (n - 1) Tryd.prog l #[.int .i64 x.1] W fun e W' =>
      (e = .returned (.bool true) ∧ J (pre ++ [x]) W' ∧ Below n₀ W W') ∨ (e = .returned (.bool false) ∧ Jx (pre ++ [x]) W'))
    (W : World) (hJ : AbidesFrom W.heap.size J) (hn0 : n₀ ≤ W.heap.size) (hC : W.heap[Bc]? = some (.cells #[.slice ha hl hc, .slice sa sl sc] 25 (0, 0))) (hYr : W.heap[By]? = some (.cells #[.int .i64 y] 3 (0, 0))) (hH : HosAt n₀ W ha hl H) (hT : Tabs W) (h0 : J [] W) :
    CallsIn Fence.wide n Tryd.prog 57 #[.func (.yield l) #[] #[], .pointer (some ⟨Bc, 0, none⟩), .pointer (some ⟨By, 0, none⟩)] W fun e W' => (∃ v, e = .returned v) ∧
      ((∃ ys, ys = hdL H y hl ∧ J ys W') ∨ (∃ pre, pre <+: hdL H y hl ∧ Jx pre W')) := by
  have c0 : W.cell? ⟨Bc, 0, none⟩ = some (.slice ha hl hc) := cell_of_row _ Bc 0 _ _ _ hC
  have HH := Lib.hid hH
  have HJA := Lib.hid hJ
  have HY := Lib.hid hY
  have HT := Lib.hid hT
  have HYR := Lib.hid hYr
  have HHO := Lib.hid hho
  have H0 := Lib.hid h0
  clear hH hJ hY hT hYr hho hC h0
  refine callsIn_of_wp Tryd.func57 rfl trivial ?_ rfl
  simp only [Tryd.ntmps57, List.size_toArray, List.length_cons, List.length_nil, Nat.reduceAdd, Nat.reduceSub, Array.replicate_succ, Array.replicate_zero, List.push_toArray, List.append_toArray, List.nil_append, List.cons_append]
  gi_wp2
  gi_loopw [13] (fun i wr => ∃ k : Nat, k ≤ hl ∧ i = .int .i64 k ∧ J (hdL H y k) wr ∧ Below n₀ W wr) (fun i _ => (hl - intOf i).toNat)
  case atStart => exact ⟨0, Nat.zero_le _, rfl, H0.out, Below.refl _ _⟩
  case round =>
    obtain ⟨k, hk, rfl, hJs, hbn⟩ := hrel
    clear c0
    by_cases hlt : k < hl
    · have hlti : (k : Int) < hl := by omega
      obtain ⟨b, o, rfl, hbl, a0, a1, a2, a3, a4, a5⟩ := HH.out.next hbn (Nat.le_refl _) hn0 k hlt
      have hhk := HHO.out k hlt
      have hsucc := hdL_succ H y k
      have hpfx : hdL H y (k + 1) <+: hdL H y hl := hdL_prefix H y (by omega)
      obtain ⟨h, hhe⟩ : ∃ h, h = H k := ⟨_, rfl⟩
      rw [← hhe] at a0 a1 a2 a3 a4 a5 hhk hsucc
      have hbx0 := (Below.refl wr.heap.size wr).alloc (Nat.le_refl _) (.cells (hoC h.k h.y h.m h.d h.w h.n) 50)
      have hyw := (hbn.block By (by omega)).trans HYR.out
      have hnw : n₀ ≤ wr.heap.size := Nat.le_trans hn0 hbn.size
      have y0 : (wr.alloc (.cells (hoC h.k h.y h.m h.d h.w h.n) 50)).cell? ⟨By, 0, none⟩ = some (.int .i64 y) := cell_of_row _ _ 0 _ _ _ (heap_old hyw _)
      have HNR := Lib.hid (near_any h y hhk hy0 hy1 _ (HT.out.below h0n (hbn.trans (hbx0.mono hnw))))
      have HBX0 := Lib.hid hbx0
      have HBN := Lib.hid hbn
      have HJS := Lib.hid hJs
      have HSU := Lib.hid hsucc
      have HPF := Lib.hid hpfx
      clear hhk hsucc hpfx hhe hbx0 hyw hbn hJs
      gi_wp2_with (refine ⟨trivial, ?_⟩; gi_at_call 58; refine (callsIn_wide.2 HNR.out).mono ?_; rintro e wd ⟨⟨Y1, M1, D1, Y2, M2, D2, hq, rfl⟩, hBd⟩; have HQ := Lib.hid hq; have HBD := Lib.hid hBd; clear hq hBd y0 a0 a1 a2 a3 a4 a5 hnw)
      have hbd := HBX0.out.trans (HBD.out.mono HBX0.out.size)
      have hjd := HJA.out _ wr wd none HJS.out ⟨hbd.os, hbd.tape, hbd.output, hbd.size, fun q hq _ => hbd.block q hq⟩ (fun r e => by cases e)
      have hbnd := HBN.out.trans (hbd.mono (Nat.le_trans hn0 HBN.out.size))
      have HJD := Lib.hid hjd
      have HBND := Lib.hid hbnd
      clear hbd hjd hbnd HBX0 HBD HJS HBN HNR
      gi_loopw [20] (fun i w2 => ∃ j : Nat, j ≤ 2 ∧ i = .int .i64 j ∧ J (hdL H y k ++ (if j = 0 then [] else if j = 1 then toE (yd y Y1 M1 D1) else toE (yd y Y1 M1 D1) ++ toE (yd y Y2 M2 D2))) w2 ∧ Below n₀ W w2) (fun i _ => (2 - intOf i).toNat)
      case atStart => exact ⟨0, Nat.zero_le _, rfl, by simpa using HJD.out, HBND.out⟩
      case round =>
        obtain ⟨j, hj, rfl, hJs, hbn⟩ := hrel
        obtain ⟨P1, hP1⟩ : ∃ P, P = toE (yd y Y1 M1 D1) := ⟨_, rfl⟩
        obtain ⟨P2, hP2⟩ : ∃ P, P = toE (yd y Y2 M2 D2) := ⟨_, rfl⟩
        have HBN := Lib.hid hbn
        have hfull : hdL H y k ++ (P1 ++ P2) <+: hdL H y hl := by
          rw [hP1, hP2, ← toE_append, HQ.out, ← HSU.out]; exact HPF.out
        clear hbn
        rcases (by omega : j = 0 ∨ j = 1 ∨ j = 2) with rfl | rfl | rfl
        · -- 0
          have hJs : J (hdL H y k ++ []) wr := hJs
          have hlen1 : May Y1 M1 D1 → Y1 = y → (hdL H y k ++ ([] : List DayE)).length < (hdL H y hl).length := fun hm e => by
            have hp : P1.length = 1 := by rw [hP1, yd_yes hm e, toE_one (day_bounds hm)]; rfl
            have := hfull.length_le
            simp only [List.length_append, List.length_nil] at this ⊢
            omega
          have hpre1 : May Y1 M1 D1 → Y1 = y → ∀ q, q = (hdL H y k ++ ([] : List DayE)) ++ P1 → q <+: hdL H y hl := fun hm e q hq => by
            rw [hq, List.append_nil]
            exact (List.prefix_append _ P2).trans (by rw [List.append_assoc]; exact hfull)
          have hidx := index_0 Y1 M1 D1 Y2 M2 D2 wr
          have hb1 := (Below.refl wr.heap.size wr).alloc (Nat.le_refl _) (.cells #[.int .i64 Y1, .int .i64 M1, .int .i64 D1] 39)
          have HZD := Lib.hid (heap_alloc_new wr (.cells #[.int .i64 Y1, .int .i64 M1, .int .i64 D1] 39))
          have hnw : n₀ ≤ wr.heap.size := Nat.le_trans hn0 HBN.out.size
          have HTD := Lib.hid (HT.out.below h0n (HBN.out.trans (hb1.mono hnw)))
          by_cases hm : May Y1 M1 D1
          · have hdb := day_bounds hm
            by_cases hyr : Y1 = y
            · have hlen := hlen1 hm hyr
              have hpre := hpre1 hm hyr
              obtain ⟨V, hV⟩ : ∃ V, V = dayOf Y1 M1 D1 := ⟨_, rfl⟩
              have HDY := Lib.hid (day_yes Y1 M1 D1 _ HTD.out hm)
              have hdb2 : 0 ≤ V ∧ V ≤ 2932896 := by rw [hV]; exact hdb
              rw [← hV] at HDY
              have hseg : P1 = ([] : List DayE) ++ [⟨V, hdb2⟩] := by rw [hP1]; rw [yd_yes hm hyr, ← hV, toE_one hdb2]; rfl
              have HSEG := Lib.hid hseg
              subst hyr
              clear hdb hm hV hseg
              gi_wp2_with (refine ⟨trivial, ?_⟩; gi_at_call 29; refine (callsIn_wide.2 (HDY.out)).mono ?_; rintro e w2 ⟨rfl, hB2⟩; have hbx := hb1.trans (hB2.mono hb1.size); have hJ2 := HJA.out _ wr w2 none hJs ⟨hbx.os, hbx.tape, hbx.output, hbx.size, fun q hq _ => hbx.block q hq⟩ (fun r e => by cases e); have hBn := HBN.out.trans (hbx.mono (by omega)); have hy2 := (hBn.block By (by omega)).trans HYR.out; have hd2 := (hB2.block wr.heap.size (by simp)).trans HZD.out; have d0 : w2.cell? ⟨wr.heap.size, 0, none⟩ = some (.int .i64 Y1) := cell_of_row w2 _ 0 _ _ _ hd2; have y0 : w2.cell? ⟨By, 0, none⟩ = some (.int .i64 Y1) := cell_of_row w2 _ 0 _ _ _ hy2; obtain ⟨fn, tmps, assign, body, hyy, hR⟩ := HY.out _ (⟨V, hdb2⟩ : DayE) w2 hJ2 hlen; have HRR := Lib.hid hR; have HBn := Lib.hid hBn; clear hR hbx hJ2 hBn hy2 hd2 hB2)
              refine HRR.out.mono ?_
              rintro e W6 (⟨rfl, hJ6, hk6⟩ | ⟨rfl, hJx6⟩)
              · have HJ6 := Lib.hid hJ6
                have HK6 := Lib.hid (HBn.out.trans hk6)
                clear hJ6 hk6 d0 y0
                gi_wp2
                go_roundw
                case rel =>
                  refine ⟨1, by omega, by go_num, ?_, HK6.out⟩
                  show J (hdL H _ k ++ toE (yd _ Y1 M1 D1)) _; rw [← hP1]
                  rw [HSEG.out, ← List.append_assoc]
                  exact HJ6.out
                case measure => first | (simp [intOf]; done) | (simp [intOf]; omega)
              · clear d0 y0
                gi_wp2
                refine bodyPost_ret (results_none rfl _ _ _) rfl ?_
                exact ⟨⟨_, rfl⟩, .inr ⟨_, hpre _ (by rw [HSEG.out]; rfl), hJx6⟩⟩
            · have hne : (Y1 == y) = false := by simp [hyr]
              have HDY := Lib.hid (day_yes Y1 M1 D1 _ HTD.out hm)
              clear hdb
              gi_wp2_with (refine ⟨trivial, ?_⟩; gi_at_call 29; refine (callsIn_wide.2 (HDY.out)).mono ?_; rintro e w2 ⟨rfl, hB2⟩; have hbx := hb1.trans (hB2.mono hb1.size); have hJ2 := HJA.out _ wr w2 none hJs ⟨hbx.os, hbx.tape, hbx.output, hbx.size, fun q hq _ => hbx.block q hq⟩ (fun r e => by cases e); have hBn := HBN.out.trans (hbx.mono (by omega)); have hy2 := (hBn.block By (by omega)).trans HYR.out; have hd2 := (hB2.block wr.heap.size (by simp)).trans HZD.out; have d0 : w2.cell? ⟨wr.heap.size, 0, none⟩ = some (.int .i64 Y1) := cell_of_row w2 _ 0 _ _ _ hd2; have y0 : w2.cell? ⟨By, 0, none⟩ = some (.int .i64 y) := cell_of_row w2 _ 0 _ _ _ hy2)
              refine ⟨(fun f hf => by cases hf), ?_⟩
              have HJ2 := Lib.hid hJ2
              have HBn := Lib.hid hBn
              clear hJ2 hBn hbx hB2 hy2 hd2 d0 y0 hJs
              gi_wp2
              go_roundw
              case rel =>
                refine ⟨1, by omega, by go_num, ?_, HBn.out⟩
                show J (hdL H y k ++ toE (yd y Y1 M1 D1)) _; rw [← hP1]
                rw [show P1 = ([] : List DayE) from (by rw [hP1]; rw [yd_no (fun q => hyr q.2)]; rfl)]
                exact HJ2.out
              case measure => first | (simp [intOf]; done) | (simp [intOf]; omega)
          · have HDY := Lib.hid (day_no Y1 M1 D1 _ HTD.out hm)
            gi_wp2_with (refine ⟨trivial, ?_⟩; gi_at_call 29; refine (callsIn_wide.2 (HDY.out)).mono ?_; rintro e w2 ⟨rfl, hB2⟩; have hbx := hb1.trans (hB2.mono hb1.size); have hJ2 := HJA.out _ wr w2 none hJs ⟨hbx.os, hbx.tape, hbx.output, hbx.size, fun q hq _ => hbx.block q hq⟩ (fun r e => by cases e); have hBn := HBN.out.trans (hbx.mono (by omega)); have hy2 := (hBn.block By (by omega)).trans HYR.out; have hd2 := (hB2.block wr.heap.size (by simp)).trans HZD.out; have d0 : w2.cell? ⟨wr.heap.size, 0, none⟩ = some (.int .i64 Y1) := cell_of_row w2 _ 0 _ _ _ hd2; have y0 : w2.cell? ⟨By, 0, none⟩ = some (.int .i64 y) := cell_of_row w2 _ 0 _ _ _ hy2)
            refine ⟨(fun f hf => by cases hf), ?_⟩
            have HJ2 := Lib.hid hJ2
            have HBn := Lib.hid hBn
            clear hJ2 hBn hbx hB2 hy2 hd2 d0 y0 hJs
            gi_wp2
            go_roundw
            case rel =>
              refine ⟨1, by omega, by go_num, ?_, HBn.out⟩
              show J (hdL H y k ++ toE (yd y Y1 M1 D1)) _; rw [← hP1]
              rw [show P1 = ([] : List DayE) from (by rw [hP1]; rw [yd_no (fun q => hm q.1)]; rfl)]
              exact HJ2.out
            case measure => first | (simp [intOf]; done) | (simp [intOf]; omega)
        · -- 1
          have hJs : J (hdL H y k ++ P1) wr := by rw [hP1]; exact hJs
          have hlen2 : May Y2 M2 D2 → Y2 = y → (hdL H y k ++ P1).length < (hdL H y hl).length := fun hm e => by
            have hp : P2.length = 1 := by rw [hP2, yd_yes hm e, toE_one (day_bounds hm)]; rfl
            have := hfull.length_le
            simp only [List.length_append] at this ⊢
            omega
          have hpre2 : May Y2 M2 D2 → Y2 = y → ∀ q, q = (hdL H y k ++ P1) ++ P2 → q <+: hdL H y hl := fun hm e q hq => by
            rw [hq, List.append_assoc]
            exact hfull
          have hidx := index_1 Y1 M1 D1 Y2 M2 D2 wr
          have hb1 := (Below.refl wr.heap.size wr).alloc (Nat.le_refl _) (.cells #[.int .i64 Y2, .int .i64 M2, .int .i64 D2] 39)
          have HZD := Lib.hid (heap_alloc_new wr (.cells #[.int .i64 Y2, .int .i64 M2, .int .i64 D2] 39))
          have hnw : n₀ ≤ wr.heap.size := Nat.le_trans hn0 HBN.out.size
          have HTD := Lib.hid (HT.out.below h0n (HBN.out.trans (hb1.mono hnw)))
          by_cases hm : May Y2 M2 D2
          · have hdb := day_bounds hm
            by_cases hyr : Y2 = y
            · have hlen := hlen2 hm hyr
              have hpre := hpre2 hm hyr
              obtain ⟨V, hV⟩ : ∃ V, V = dayOf Y2 M2 D2 := ⟨_, rfl⟩
              have HDY := Lib.hid (day_yes Y2 M2 D2 _ HTD.out hm)
              have hdb2 : 0 ≤ V ∧ V ≤ 2932896 := by rw [hV]; exact hdb
              rw [← hV] at HDY
              have hseg : (P1 ++ P2) = P1 ++ [⟨V, hdb2⟩] := by rw [hP2]; rw [yd_yes hm hyr, ← hV, toE_one hdb2]
              have HSEG := Lib.hid hseg
              subst hyr
              clear hdb hm hV hseg
              gi_wp2_with (refine ⟨trivial, ?_⟩; gi_at_call 29; refine (callsIn_wide.2 (HDY.out)).mono ?_; rintro e w2 ⟨rfl, hB2⟩; have hbx := hb1.trans (hB2.mono hb1.size); have hJ2 := HJA.out _ wr w2 none hJs ⟨hbx.os, hbx.tape, hbx.output, hbx.size, fun q hq _ => hbx.block q hq⟩ (fun r e => by cases e); have hBn := HBN.out.trans (hbx.mono (by omega)); have hy2 := (hBn.block By (by omega)).trans HYR.out; have hd2 := (hB2.block wr.heap.size (by simp)).trans HZD.out; have d0 : w2.cell? ⟨wr.heap.size, 0, none⟩ = some (.int .i64 Y2) := cell_of_row w2 _ 0 _ _ _ hd2; have y0 : w2.cell? ⟨By, 0, none⟩ = some (.int .i64 Y2) := cell_of_row w2 _ 0 _ _ _ hy2; obtain ⟨fn, tmps, assign, body, hyy, hR⟩ := HY.out _ (⟨V, hdb2⟩ : DayE) w2 hJ2 hlen; have HRR := Lib.hid hR; have HBn := Lib.hid hBn; clear hR hbx hJ2 hBn hy2 hd2 hB2)
              refine HRR.out.mono ?_
              rintro e W6 (⟨rfl, hJ6, hk6⟩ | ⟨rfl, hJx6⟩)
              · have HJ6 := Lib.hid hJ6
                have HK6 := Lib.hid (HBn.out.trans hk6)
                clear hJ6 hk6 d0 y0
                gi_wp2
                go_roundw
                case rel =>
                  refine ⟨2, by omega, by go_num, ?_, HK6.out⟩
                  show J (hdL H _ k ++ (toE (yd _ Y1 M1 D1) ++ toE (yd _ Y2 M2 D2))) _; rw [← hP1, ← hP2]
                  rw [HSEG.out, ← List.append_assoc]
                  exact HJ6.out
                case measure => first | (simp [intOf]; done) | (simp [intOf]; omega)
              · clear d0 y0
                gi_wp2
                refine bodyPost_ret (results_none rfl _ _ _) rfl ?_
                exact ⟨⟨_, rfl⟩, .inr ⟨_, hpre _ (by rw [List.append_assoc, ← HSEG.out, List.append_assoc]), hJx6⟩⟩
            · have hne : (Y2 == y) = false := by simp [hyr]
              have HDY := Lib.hid (day_yes Y2 M2 D2 _ HTD.out hm)
              clear hdb
              gi_wp2_with (refine ⟨trivial, ?_⟩; gi_at_call 29; refine (callsIn_wide.2 (HDY.out)).mono ?_; rintro e w2 ⟨rfl, hB2⟩; have hbx := hb1.trans (hB2.mono hb1.size); have hJ2 := HJA.out _ wr w2 none hJs ⟨hbx.os, hbx.tape, hbx.output, hbx.size, fun q hq _ => hbx.block q hq⟩ (fun r e => by cases e); have hBn := HBN.out.trans (hbx.mono (by omega)); have hy2 := (hBn.block By (by omega)).trans HYR.out; have hd2 := (hB2.block wr.heap.size (by simp)).trans HZD.out; have d0 : w2.cell? ⟨wr.heap.size, 0, none⟩ = some (.int .i64 Y2) := cell_of_row w2 _ 0 _ _ _ hd2; have y0 : w2.cell? ⟨By, 0, none⟩ = some (.int .i64 y) := cell_of_row w2 _ 0 _ _ _ hy2)
              refine ⟨(fun f hf => by cases hf), ?_⟩
              have HJ2 := Lib.hid hJ2
              have HBn := Lib.hid hBn
              clear hJ2 hBn hbx hB2 hy2 hd2 d0 y0 hJs
              gi_wp2
              go_roundw
              case rel =>
                refine ⟨2, by omega, by go_num, ?_, HBn.out⟩
                show J (hdL H y k ++ (toE (yd y Y1 M1 D1) ++ toE (yd y Y2 M2 D2))) _; rw [← hP1, ← hP2]
                rw [show (P1 ++ P2) = P1 from (by rw [hP2]; rw [yd_no (fun q => hyr q.2), toE_nil, List.append_nil])]
                exact HJ2.out
              case measure => first | (simp [intOf]; done) | (simp [intOf]; omega)
          · have HDY := Lib.hid (day_no Y2 M2 D2 _ HTD.out hm)
            gi_wp2_with (refine ⟨trivial, ?_⟩; gi_at_call 29; refine (callsIn_wide.2 (HDY.out)).mono ?_; rintro e w2 ⟨rfl, hB2⟩; have hbx := hb1.trans (hB2.mono hb1.size); have hJ2 := HJA.out _ wr w2 none hJs ⟨hbx.os, hbx.tape, hbx.output, hbx.size, fun q hq _ => hbx.block q hq⟩ (fun r e => by cases e); have hBn := HBN.out.trans (hbx.mono (by omega)); have hy2 := (hBn.block By (by omega)).trans HYR.out; have hd2 := (hB2.block wr.heap.size (by simp)).trans HZD.out; have d0 : w2.cell? ⟨wr.heap.size, 0, none⟩ = some (.int .i64 Y2) := cell_of_row w2 _ 0 _ _ _ hd2; have y0 : w2.cell? ⟨By, 0, none⟩ = some (.int .i64 y) := cell_of_row w2 _ 0 _ _ _ hy2)
            refine ⟨(fun f hf => by cases hf), ?_⟩
            have HJ2 := Lib.hid hJ2
            have HBn := Lib.hid hBn
            clear hJ2 hBn hbx hB2 hy2 hd2 d0 y0 hJs
            gi_wp2
            go_roundw
            case rel =>
              refine ⟨2, by omega, by go_num, ?_, HBn.out⟩
              show J (hdL H y k ++ (toE (yd y Y1 M1 D1) ++ toE (yd y Y2 M2 D2))) _; rw [← hP1, ← hP2]
              rw [show (P1 ++ P2) = P1 from (by rw [hP2]; rw [yd_no (fun q => hm q.1), toE_nil, List.append_nil])]
              exact HJ2.out
            case measure => first | (simp [intOf]; done) | (simp [intOf]; omega)
        · -- 2
          have hJe : J (hdL H y (k + 1)) wr := by
            rw [HSU.out, ← HQ.out, toE_append]
            exact hJs
          have HJE := Lib.hid hJe
          clear hJe hJs hfull hP1 hP2
          gi_wp2
          go_roundw
          case rel => exact ⟨k + 1, by omega, by go_num, HJE.out, HBN.out⟩
          case measure => first | (simp [intOf]; done) | (simp [intOf]; omega)
    · have hke : k = hl := by omega
      subst hke
      have hnl : ¬ ((k : Int) < k) := by omega
      have HJS := Lib.hid hJs
      clear hJs hbn
      gi_wp2
      go_end0
      first | exact ⟨⟨_, rfl⟩, .inl ⟨_, rfl, HJS.out⟩⟩ | exact ⟨⟨_, rfl⟩, .inl HJS.out⟩
end Go.Proofs.YtgedcfgmfhlkdaaDoor
