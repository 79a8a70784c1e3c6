/- The iterator kindsFrom. -/
import Derived.Test.YtgedcfgmfhlkdaaDoorHList
import Derived.Test.YtgedcfgmfhlkdaaDoorKMonths
import Derived.Test.YtgedcfgmfhlkdaaDoorHIsW
set_option linter.unusedVariables false
set_option linter.unusedSimpArgs false
namespace Go.Proofs.YtgedcfgmfhlkdaaDoor
open Go.RowKit Go.Shelf
attribute [local go_sem] Oper.semAt_some
/-- What a round keeps: every block of cells. -/
def KA (W W' : World) : Prop := ∀ (g : Nat) (cs : Array Value) (t : TypeId) (fr : Nat × Nat), W.heap[g]? = some (.cells cs t fr) → W'.heap[g]? = some (.cells cs t fr)
theorem KA.refl (W : World) : KA W W := fun _ _ _ _ h => h
theorem KA.trans {X Y Z : World} (h : KA X Y) (k : KA Y Z) : KA X Z := fun g cs t fr e => k g cs t fr (h g cs t fr e)
theorem KA.of {X Y : World} (h : Below X.heap.size X Y) : KA X Y := fun g cs t fr e => (h.block g (Array.getElem?_eq_some_iff.1 e).1).trans e
theorem kaB (n : Nat) (W : World) (l : Nat) (o o' : Obj) (hl : n ≤ l) (h : W.heap[l]? = some o) (h1 : o.isCells = false) (h2 : o.isWalk = false) : KA W (W.putObj l o') := by
  intro g cs t fr e
  have hne : l ≠ g := by
    intro q
    rw [← q, h] at e
    cases e
    cases h1
  exact (World.putObj_heap_other (Ne.symm hne)).trans e
theorem KA.cell {X Y : World} (h : KA X Y) {p : Addr} {v : Value} (e : X.cell? p = some v) : Y.cell? p = some v := by
  unfold World.cell? at e ⊢
  split at e
  · rename_i cs t fr hc
    rw [h _ _ _ _ hc]
    exact e
  · cases e
theorem KA.tabs {X Y : World} (h : KA X Y) : Tabs X → Tabs Y | ⟨T, fr, e⟩ => ⟨T, fr, h _ _ _ _ e⟩
theorem KA.hos {X Y : World} {B : Nat} {a : Option Addr} {len : Nat} {H : Nat → Ho} (h : KA X Y) (k : HosAt B X a len H) : HosAt Y.heap.size Y a len H := by
  intro i hi
  obtain ⟨b, o, e, hb, h0, h1, h2, h3, h4, h5⟩ := k i hi
  exact ⟨b, o, e, World.block_lt_of_cell? Y _ (h.cell h0), h.cell h0, h.cell h1, h.cell h2, h.cell h3, h.cell h4, h.cell h5⟩
/-- A list as it is read. -/
def ListC (W : World) (v : Value) (E : List Int) : Prop :=
  (E = [] ∧ ∃ a c, v = .slice a 0 c) ∨ ∃ g c, v = .slice (some ⟨g, 0, none⟩) E.length c ∧ ∀ j, j < E.length → W.cell? ⟨g, j, none⟩ = some (.int .i64 (E.getD j 0))
theorem ListAt.c {n : Nat} {W : World} {v : Value} {E : List Int} (h : ListAt n W v E) : ListC W v E := by
  rcases h with h | ⟨g, c, e, _, _, _, h⟩
  · exact .inl h
  · exact .inr ⟨g, c, e, h⟩
theorem ListC.keep {X Y : World} {v : Value} {E : List Int} (h : ListC X v E) (k : KA X Y) : ListC Y v E := by
  rcases h with h | ⟨g, c, e, h⟩
  · exact .inl h
  · exact .inr ⟨g, c, e, fun j hj => k.cell (h j hj)⟩
theorem bs_any (v : Value) (E : List Int) (x : Int) (w : World) (h : ListC w v E) (hs : E.Pairwise (· < ·)) (hl : E.length ≤ 1000) :
    Calls Tryd.prog 64 #[v, .int .i64 x] w fun e w' => (∃ p : Int, e = .returned (.tuple #[.int .i64 p, .bool (E.contains x)])) ∧ ∃ q, w' = w.drewN q := by
  rcases h with ⟨rfl, a, c, rfl⟩ | ⟨g, c, rfl, h⟩
  · refine (slices_BinarySearch_int_empty a c x w).mono ?_
    rintro e w' ⟨rfl, rfl⟩
    exact ⟨⟨0, rfl⟩, 0, rfl⟩
  · refine (slices_BinarySearch_int g 0 E.length c E x w (Nat.le_refl _) (by omega) (fun j hj => by rw [Nat.zero_add]; exact h j hj) (by rw [List.take_length]; exact hs.imp (fun h => Int.le_of_lt h))).mono ?_
    rintro e w' ⟨rfl, q, rfl⟩
    exact ⟨⟨_, by rw [List.take_length]⟩, q, rfl⟩
def FeastOn (H : Nat → Ho) (hl : Nat) (x : Int) : Prop := ∃ y, (1970 ≤ y ∧ y ≤ 9999) ∧ x ∈ hds H y hl
noncomputable def kindD (H : Nat → Ho) (hl : Nat) (x : Int) : Int := kindB x (@decide (FeastOn H hl x) (Classical.propDecidable _))
theorem feast_year {H : Nat → Ho} {hl : Nat} {x y : Int} (hy0 : 1970 ≤ y) (hy1 : y ≤ 9999) (h0 : ahead y ≤ x) (h1 : x < ahead (y + 1)) : FeastOn H hl x ↔ x ∈ hds H y hl := by
  constructor
  · rintro ⟨z, ⟨z0, z1⟩, hz⟩
    have b := hds_in z0 z1 hz
    have : z = y := by
      rcases Int.lt_trichotomy z y with hl | e | hl
      · have := ahead_le (a := z + 1) (b := y) (by omega); omega
      · exact e
      · have := ahead_le (a := y + 1) (b := z) (by omega); omega
    rw [← this]; exact hz
  · exact fun h => ⟨y, ⟨hy0, hy1⟩, h⟩
theorem kindD_year {H : Nat → Ho} {hl : Nat} {x y : Int} (hy0 : 1970 ≤ y) (hy1 : y ≤ 9999) (h0 : ahead y ≤ x) (h1 : x < ahead (y + 1)) : kindD H hl x = kindB x (decide (x ∈ hds H y hl)) := by
  unfold kindD
  congr 1
  have := feast_year (H := H) (hl := hl) hy0 hy1 h0 h1
  by_cases c : x ∈ hds H y hl
  · rw [decide_eq_true c]; exact @decide_eq_true _ (Classical.propDecidable _) (this.2 c)
  · rw [decide_eq_false c]; exact @decide_eq_false _ (Classical.propDecidable _) (fun q => c (this.1 q))
theorem kindD_is {H : Nat → Ho} {hl : Nat} {x y m d : Int} (h : IsDate x y m d) : kindD H hl x = kindB x (decide (x ∈ hds H y hl)) := by
  have a := in_year h.1
  rw [← h.2] at a
  exact kindD_year h.1.1 h.1.2.1 a.1 a.2
theorem feasts_contains {H : Nat → Ho} {hl : Nat} {x y : Int} : (feastsE H y hl).contains x = decide (x ∈ hds H y hl) := by
  rw [Bool.eq_iff_iff, List.contains_iff_mem, mem_feasts, decide_eq_true_iff]
abbrev DayK := { p : Int × Int // 0 ≤ p.1 ∧ p.1 ≤ 2932896 }
def encK (z : DayK) : Array Value := #[.int .i64 z.1.1, .int .i64 z.1.2]
noncomputable def dayK (H : Nat → Ho) (hl : Nat) (s : Int) (i : Nat) : DayK := if h : 0 ≤ s + i ∧ s + i ≤ 2932896 then ⟨(s + i, kindD H hl (s + i)), h⟩ else ⟨(0, 0), by omega⟩
theorem dayK_val {H : Nat → Ho} {hl : Nat} {s : Int} {i : Nat} (h : 0 ≤ s + i ∧ s + i ≤ 2932896) : (dayK H hl s i).1 = (s + i, kindD H hl (s + i)) := by unfold dayK; rw [dif_pos h]
theorem may_11 {y : Int} (h0 : 1970 ≤ y) (h1 : y ≤ 9999) : May y 1 1 ∧ dayOf y 1 1 = ahead y := by
  refine ⟨⟨h0, h1, by omega, by omega, by omega, by simp [dlen, mlen]⟩, ?_⟩
  unfold dayOf
  rw [bef_one]; omega
theorem may_1231 {y : Int} (h0 : 1970 ≤ y) (h1 : y ≤ 9999) : May y 12 31 ∧ dayOf y 12 31 = ahead (y + 1) - 1 := by
  refine ⟨⟨h0, h1, by omega, by omega, by omega, by simp [dlen, mlen]⟩, ?_⟩
  have := ahead_succ (y := y) (by omega)
  unfold dayOf
  rw [this]
  simp [bef, cum]
  omega
set_option maxRecDepth 100000 in
set_option maxHeartbeats 4000000 in
theorem kin1_in (n : Nat) (hn : 1 ≤ n) (l Bc By : Nat) (ha : Option Addr) (hl hc : Nat) (sa : Option Addr) (sl sc : Nat) (H : Nat → Ho) (y0 : Int) (hlm : hl ≤ 100) (hho : ∀ i, i < hl → HoIs (H i)) (hy0 : 1970 ≤ y0) (hy1 : y0 ≤ 9999) (N : Nat) (hN : (N : Int) = 2932897 - ahead y0) (J Jx : List DayK → World → Prop)
    (hY : ∀ pre x W, J pre W → pre.length < N → YieldAt Fence.wide (n - 1) Tryd.prog l #[.int .i64 x.1.1, .int .i64 x.1.2] W fun e W' =>
      (e = .returned (.bool true) ∧ J (pre ++ [x]) W' ∧ KA W W') ∨ (e = .returned (.bool false) ∧ Jx (pre ++ [x]) W'))
    (W : World) (hJ : AbidesFrom W.heap.size J) (hC : W.heap[Bc]? = some (.cells #[.slice ha hl hc, .slice sa sl sc] 25 (0, 0))) (hYr : W.heap[By]? = some (.cells #[.int .i64 y0] 3 (0, 0))) (hH : HosAt W.heap.size W ha hl H) (hT : Tabs W) (h0 : J [] W) :
    CallsIn Fence.wide n Tryd.prog 63 #[.func (.yield l) #[] #[], .pointer (some ⟨By, 0, none⟩), .pointer (some ⟨Bc, 0, none⟩)] W fun e W' => (∃ v, e = .returned v) ∧
      ((∃ ys, ys = upto (dayK H hl (ahead y0)) N ∧ J ys W') ∨ (∃ pre, (∃ k, k ≤ N ∧ pre = upto (dayK H hl (ahead y0)) k) ∧ Jx pre W')) := by
  have c0 : W.cell? ⟨By, 0, none⟩ = some (.int .i64 y0) := cell_of_row _ By 0 _ _ _ hYr
  have hd1 := may_11 hy0 hy1
  have HDY := Lib.hid (show ∀ V, Tabs V → Calls Tryd.prog 29 #[dateV y0 1 1] V fun e w' => e = .returned (.tuple #[.int .i64 (ahead y0), .int .i64 0]) ∧ Below V.heap.size V w' from fun V hV => by have := day_yes y0 1 1 V hV hd1.1; rw [hd1.2] at this; exact this)
  have HH := Lib.hid hH
  have HJA := Lib.hid hJ
  have HY := Lib.hid hY
  have HT := Lib.hid hT
  have HC := Lib.hid hC
  have HYR := Lib.hid hYr
  have HHO := Lib.hid hho
  have H0 := Lib.hid h0
  have ha0 := ahead_le (a := 1970) (b := y0) hy0
  rw [ahead_1970] at ha0
  obtain ⟨s, hs⟩ : ∃ s, s = ahead y0 := ⟨_, rfl⟩
  rw [← hs] at HDY hN ha0 ⊢
  have HSS := Lib.hid hs
  clear hH hJ hY hT hYr hho hC h0 hd1 hs
  refine callsIn_of_wp Tryd.func63 rfl trivial ?_ rfl
  simp only [Tryd.ntmps63, List.size_toArray, List.length_cons, List.length_nil, Nat.reduceAdd, Nat.reduceSub, Array.replicate_succ, Array.replicate_zero, List.push_toArray, List.append_toArray, List.nil_append, List.cons_append]
  gi_wp2_with (refine ⟨trivial, ?_⟩; gi_at_call 29; refine (callsIn_wide.2 (HDY.out _ HT.out)).mono ?_; rintro e W1 ⟨rfl, hB1⟩; have hyr1 := (hB1.block By (Array.getElem?_eq_some_iff.1 HYR.out).1).trans HYR.out; have c1 : W1.cell? ⟨By, 0, none⟩ = some (.int .i64 y0) := cell_of_row _ By 0 _ _ _ hyr1; have HB1 := Lib.hid hB1; clear hB1 hyr1)
  have hbx := HB1.out
  have hj1 := HJA.out [] W W1 none H0.out ⟨hbx.os, hbx.tape, hbx.output, hbx.size, fun q hq _ => hbx.block q hq⟩ (fun r e => by cases e)
  have hsz1 := hbx.size
  have HJ1 := Lib.hid hj1
  have HK1 := Lib.hid (KA.of hbx)
  clear hbx hj1 c0 c1 H0 HDY
  gi_loopw [4, 6] (fun a b wr => ∃ (k : Nat) (y : Int), (y0 ≤ y ∧ y ≤ 10000) ∧ a = .int .i64 (s + k) ∧ b = .int .i64 y ∧ s + k = ahead y ∧ J (upto (dayK H hl s) k) wr ∧ KA W wr) (fun _ b _ => (10000 - intOf b).toNat)
  case atStart => exact ⟨0, y0, by omega, by simp, rfl, by rw [← HSS.out]; simp, HJ1.out, HK1.out⟩
  case round =>
    obtain ⟨k, y, ⟨hya, hyb⟩, rfl, rfl, hka, hJs, hkw⟩ := hrel
    have HJS := Lib.hid hJs
    have HKW := Lib.hid hkw
    clear hJs hkw HJ1 HK1 HB1 hsz1
    by_cases hlt : y ≤ 9999
    · have hcr := HKW.out _ _ _ _ HC.out
      have b0 : wr.cell? ⟨Bc, 0, none⟩ = some (.slice ha hl hc) := cell_of_row _ Bc 0 _ _ _ hcr
      have b1 : wr.cell? ⟨Bc, 1, none⟩ = some (.slice sa sl sc) := cell_of_row _ Bc 1 _ _ _ hcr
      have HLI := Lib.hid (listIn_any ha hl hc sa sl sc H y hlm HHO.out (by omega) hlt wr (HKW.out.hos HH.out) (HKW.out.tabs HT.out))
      have hd2 := may_1231 (y := y) (by omega) hlt
      have hyd := year_days (y := y) (by omega) hlt
      obtain ⟨Az, hAz⟩ : ∃ A, A = ahead (y + 1) := ⟨_, rfl⟩
      obtain ⟨Ay, hAy⟩ : ∃ A, A = ahead y := ⟨_, rfl⟩
      rw [← hAz] at hd2
      rw [← hAz, ← hAy] at hyd
      rw [← hAy] at hka
      have HDZ := Lib.hid (show ∀ V, Tabs V → Calls Tryd.prog 29 #[dateV y 12 31] V fun e w' => e = .returned (.tuple #[.int .i64 (Az - 1), .int .i64 0]) ∧ Below V.heap.size V w' from fun V hV => by have := day_yes y 12 31 V hV hd2.1; rw [hd2.2] at this; exact this)
      have HAZ := Lib.hid hAz
      have HAY := Lib.hid hAy
      obtain ⟨hy1', hy2', hy3', hy4'⟩ := hyd
      clear hcr hd2 hAz hAy
      gi_wp2_with (first
        | (refine ⟨trivial, ?_⟩; gi_at_call 46; refine (callsIn_wide.2 HLI.out).mono ?_; rintro e w2 ⟨⟨v, rfl, hL⟩, hB2⟩; have hT2 := (HKW.out.trans (KA.of hB2)).tabs HT.out; have HL := Lib.hid hL; have HB2 := Lib.hid hB2; clear hL hB2)
        | (refine ⟨trivial, ?_⟩; gi_at_call 29; refine (callsIn_wide.2 (HDZ.out _ hT2)).mono ?_; rintro e w3 ⟨rfl, hB3⟩; have HB3 := Lib.hid hB3; clear hB3))
      have hb3 := HB2.out.trans (HB3.out.mono HB2.out.size)
      have hj3 := HJA.out _ wr w3 none HJS.out ⟨hb3.os, hb3.tape, hb3.output, hb3.size, fun q hq _ => hb3.block q hq⟩ (fun r e => by cases e)
      have HJ3 := Lib.hid hj3
      have HK3 := Lib.hid (HKW.out.trans (KA.of hb3))
      have HLC := Lib.hid ((HL.out.c).keep (KA.of HB3.out))
      obtain ⟨va, vc, rfl⟩ := HL.out.form
      have HLEN := Lib.hid (feasts_len H y hl)
      obtain ⟨E, hE⟩ : ∃ E, E = feastsE H y hl := ⟨_, rfl⟩
      obtain ⟨EL, hEL⟩ : ∃ n, n = (feastsE H y hl).length := ⟨_, rfl⟩
      rw [← hEL]
      rw [← hEL, ← hE] at HLC
      have HE := Lib.hid hE
      have HELN := Lib.hid hEL
      clear hb3 hj3 HB2 HB3 HJS HL hT2 b0 b1 HLI HDZ hE hEL
      gi_loopw [4] (fun a wr2 => ∃ k : Nat, (Ay ≤ s + k ∧ s + k ≤ Az) ∧ a = .int .i64 (s + k) ∧ J (upto (dayK H hl s) k) wr2 ∧ KA W wr2 ∧ ListC wr2 (.slice va EL vc) E) (fun a _ => (Az - intOf a).toNat)
      case atStart => exact ⟨k, by omega, by rw [hka], HJ3.out, HK3.out, HLC.out⟩
      case round =>
        obtain ⟨j, ⟨hj0, hj1⟩, rfl, hJs, hkw, hlc⟩ := hrel
        clear HJ3 HK3 HLC
        by_cases hlt2 : s + (j : Int) ≤ Az - 1
        · obtain ⟨X, hX⟩ : ∃ X, X = s + (j : Int) := ⟨_, rfl⟩
          have hxb : 0 ≤ X ∧ X ≤ 2932896 := by omega
          have hval := dayK_val (H := H) (hl := hl) (s := s) (i := j) (by omega)
          have hkd : kindD H hl X = kindB X (E.contains X) := by
            rw [HE.out, feasts_contains]
            exact kindD_year (by omega) hlt (by rw [← HAY.out]; omega) (by rw [← HAZ.out]; omega)
          rw [← hX] at hval hlt2 ⊢
          rw [hkd] at hval
          obtain ⟨f, hf⟩ : ∃ f, f = E.contains X := ⟨_, rfl⟩
          rw [← hf] at hval
          have HBS := Lib.hid (bs_any (.slice va EL vc) E X wr hlc (by rw [HE.out]; exact pair_feasts H y hl) (by rw [HE.out]; have := HLEN.out; omega))
          rw [← hf] at HBS
          obtain ⟨x0, x1⟩ := hxb
          have HJS := Lib.hid hJs
          have HKW2 := Lib.hid hkw
          have HLC2 := Lib.hid hlc
          have HV := Lib.hid hval
          have HXX := Lib.hid hX
          have hjN : j < N := by omega
          clear hJs hkw hlc hval hkd hf hX
          gi_wp2_with (first
            | (refine ⟨trivial, ?_⟩; gi_at_call 64; refine (callsIn_wide.2 HBS.out).mono ?_; rintro e w4 ⟨⟨p, rfl⟩, q, rfl⟩; have hbd : Below wr.heap.size wr (wr.drewN q) := below_drewN (Below.refl _ _) q; have hj4 := HJA.out _ wr (wr.drewN q) none HJS.out ⟨hbd.os, hbd.tape, hbd.output, hbd.size, fun g hg _ => hbd.block g hg⟩ (fun r e => by cases e); obtain ⟨fn, tmps, assign, body, hyy, hR⟩ := HY.out _ (dayK H hl s j) (wr.drewN q) hj4 (by rw [upto_length]; exact hjN); rw [HV.out] at hyy; have HRR := Lib.hid hR; clear hbd hj4 hR)
            | (refine ⟨trivial, ?_⟩; gi_at_call 38; refine (callsIn_wide.2 (kindOf_any X f x0 x1 _)).mono ?_; rintro e w5 ⟨rfl, rfl⟩))
          refine HRR.out.mono ?_
          rintro e W6 (⟨rfl, hJ6, hk6⟩ | ⟨rfl, hJx6⟩)
          · have HJ6 := Lib.hid hJ6
            have hk7 : KA wr W6 := fun g cs t fr e => hk6 g cs t fr e
            have HK7 := Lib.hid hk7
            clear hJ6 hk6 hk7
            gi_wp2
            refine ⟨⟨j + 1, by have := HXX.out; omega, by have := HXX.out; first | (congr 1; omega) | (simp; omega), by rw [upto_succ]; exact HJ6.out, HKW2.out.trans HK7.out, HLC2.out.keep HK7.out⟩, by simp [intOf]; omega⟩
          · gi_wp2
            refine bodyPost_ret (results_none rfl _ _ _) rfl ?_
            exact ⟨⟨_, rfl⟩, .inr ⟨_, ⟨j + 1, by omega, (upto_succ _ _).symm⟩, hJx6⟩⟩
        · have hend : s + (j : Int) = Az := by omega
          have HJS := Lib.hid hJs
          have HKW2 := Lib.hid hkw
          clear hJs hkw hlc
          gi_wp2
          go_roundw
          case rel => exact ⟨j, y + 1, by omega, rfl, by go_num, by rw [← HAZ.out]; exact hend, HJS.out, HKW2.out⟩
          case measure => simp [intOf]; omega
    · have hy10 : y = 10000 := by omega
      subst hy10
      rw [ahead_10000] at hka
      have hkN : k = N := by omega
      subst hkN
      gi_wp2
      go_end0
      first | exact ⟨⟨_, rfl⟩, .inl ⟨_, rfl, HJS.out⟩⟩ | exact ⟨⟨_, rfl⟩, .inl HJS.out⟩
theorem kindsFrom_in (n : Nat) (ha : Option Addr) (hl hc : Nat) (sa : Option Addr) (sl sc : Nat) (y : Int) (w : World) :
    CallsIn Fence.wide n Tryd.prog 48 #[calV ha hl hc sa sl sc, .int .i64 y] w fun e w' => e = .returned (.func (.func 63) #[] #[.pointer (some ⟨w.heap.size + 1, 0, none⟩), .pointer (some ⟨w.heap.size, 0, none⟩)]) ∧ w' = (w.alloc (.cells #[.slice ha hl hc, .slice sa sl sc] 25)).alloc (.cells #[.int .i64 y] 3) := by
  refine callsIn_of_wp Tryd.func48 rfl trivial ?_ rfl
  simp only [Tryd.ntmps48, List.size_toArray, List.length_cons, List.length_nil, Nat.reduceAdd, Nat.reduceSub, Array.replicate_succ, Array.replicate_zero, List.push_toArray, List.append_toArray, List.nil_append, List.cons_append]
  gi_wp2
  go_ret
  exact ⟨rfl, rfl⟩
theorem kin_stops (n : Nat) (hn : 1 ≤ n) (Bc By : Nat) (ha : Option Addr) (hl hc : Nat) (sa : Option Addr) (sl sc : Nat) (H : Nat → Ho) (y : Int) (hlm : hl ≤ 100) (hho : ∀ i, i < hl → HoIs (H i)) (hy0 : 1970 ≤ y) (hy1 : y ≤ 9999) (N : Nat) (hN : (N : Int) = 2932897 - ahead y)
    (w0 : World) (hC : w0.heap[Bc]? = some (.cells #[.slice ha hl hc, .slice sa sl sc] 25 (0, 0))) (hYr : w0.heap[By]? = some (.cells #[.int .i64 y] 3 (0, 0))) (hH : HosAt w0.heap.size w0 ha hl H) (hT : Tabs w0) :
    SeqStopsK Fence.wide n Tryd.prog 63 #[.pointer (some ⟨By, 0, none⟩), .pointer (some ⟨Bc, 0, none⟩)] encK KA (fun xs => xs = upto (dayK H hl (ahead y)) N) (fun pre => ∃ k, k ≤ N ∧ pre = upto (dayK H hl (ahead y)) k) N w0 := by
  intro l J Jx W hW hJ hJx hY h0
  exact kin1_in n hn l Bc By ha hl hc sa sl sc H y hlm hho hy0 hy1 N hN J Jx hY W hJ ((hW.block Bc (Array.getElem?_eq_some_iff.1 hC).1).trans hC) ((hW.block By (Array.getElem?_eq_some_iff.1 hYr).1).trans hYr) ((hH.next hW (Nat.le_refl _) (Nat.le_refl _)).mono hW.size) (hT.next hW) h0
end Go.Proofs.YtgedcfgmfhlkdaaDoor
