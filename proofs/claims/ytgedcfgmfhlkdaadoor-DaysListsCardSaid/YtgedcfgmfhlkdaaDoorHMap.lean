/- Contracts of beginsOf and numberAt. -/
import Derived.Test.YtgedcfgmfhlkdaaDoorHSea
import Derived.Test.YtgedcfgmfhlkdaaDoorHIs
import Derived.Maps.OwnOps
import Derived.Maps.OwnSet
import Derived.Maps.RangeWalk
import Derived.StillTailTactics
set_option linter.unusedVariables false
set_option linter.unusedSimpArgs false
namespace Go.Proofs.YtgedcfgmfhlkdaaDoor
open Go.RowKit Go.Shelf Go.Maps
theorem lawB : Keyed Tryd.prog 70 := int_keyed Tryd.underlying70
theorem zeroI (w : World) : (zeroValue 3).run Tryd.prog w = .ok (.int .i64 0) w := by kernel_rfl
/-- The seasons lie from a on. -/
def SeAt (W : World) (b o : Nat) (s : Se) : Prop :=
  W.cell? ⟨b, o, none⟩ = some (.int .i64 s.n) ∧ W.cell? ⟨b, o + 1, none⟩ = some (.int .i64 s.m) ∧ W.cell? ⟨b, o + 2, none⟩ = some (.int .i64 s.d)
def SeasAt (B : Nat) (W : World) (a : Option Addr) (len : Nat) (S : Nat → Se) : Prop :=
  ∀ i, i < len → ∃ b o, a = some ⟨b, o, none⟩ ∧ b < B ∧ SeAt W b (o + i * 3) (S i)
theorem SeasAt.next {B n : Nat} {W X : World} {a : Option Addr} {len : Nat} {S : Nat → Se} (h : SeasAt B W a len S) (hB : Below n W X) (hn : B ≤ n) (hs : n ≤ W.heap.size) : SeasAt B X a len S := by
  intro i hi
  obtain ⟨b, o, e, hb, h0, h1, h2⟩ := h i hi
  have hx : ∀ k, X.cell? ⟨b, k, none⟩ = W.cell? ⟨b, k, none⟩ := fun k => hB.cell (p := ⟨b, k, none⟩) (by show b < n; omega)
  exact ⟨b, o, e, hb, (hx _).trans h0, (hx _).trans h1, (hx _).trans h2⟩
theorem SeasAt.mono {B B' : Nat} {W : World} {a : Option Addr} {len : Nat} {S : Nat → Se} (h : SeasAt B W a len S) (hB : B ≤ B') : SeasAt B' W a len S := fun i hi => by
  obtain ⟨b, o, e, hb, k⟩ := h i hi; exact ⟨b, o, e, by omega, k⟩
def HoAt (W : World) (b o : Nat) (h : Ho) : Prop :=
  W.cell? ⟨b, o, none⟩ = some (.int .i64 h.k) ∧ W.cell? ⟨b, o + 1, none⟩ = some (.int .i64 h.y) ∧ W.cell? ⟨b, o + 2, none⟩ = some (.int .i64 h.m) ∧ W.cell? ⟨b, o + 3, none⟩ = some (.int .i64 h.d) ∧ W.cell? ⟨b, o + 4, none⟩ = some (.int .i64 h.w) ∧ W.cell? ⟨b, o + 5, none⟩ = some (.int .i64 h.n)
def HosAt (B : Nat) (W : World) (a : Option Addr) (len : Nat) (H : Nat → Ho) : Prop :=
  ∀ i, i < len → ∃ b o, a = some ⟨b, o, none⟩ ∧ b < B ∧ HoAt W b (o + i * 6) (H i)
theorem HosAt.next {B n : Nat} {W X : World} {a : Option Addr} {len : Nat} {H : Nat → Ho} (h : HosAt B W a len H) (hB : Below n W X) (hn : B ≤ n) (hs : n ≤ W.heap.size) : HosAt B X a len H := by
  intro i hi
  obtain ⟨b, o, e, hb, h0, h1, h2, h3, h4, h5⟩ := h i hi
  have hx : ∀ k, X.cell? ⟨b, k, none⟩ = W.cell? ⟨b, k, none⟩ := fun k => hB.cell (p := ⟨b, k, none⟩) (by show b < n; omega)
  exact ⟨b, o, e, hb, (hx _).trans h0, (hx _).trans h1, (hx _).trans h2, (hx _).trans h3, (hx _).trans h4, (hx _).trans h5⟩
theorem HosAt.mono {B B' : Nat} {W : World} {a : Option Addr} {len : Nat} {H : Nat → Ho} (h : HosAt B W a len H) (hB : B ≤ B') : HosAt B' W a len H := fun i hi => by
  obtain ⟨b, o, e, hb, k⟩ := h i hi; exact ⟨b, o, e, by omega, k⟩
abbrev calV (ha : Option Addr) (hl hc : Nat) (sa : Option Addr) (sl sc : Nat) : Value := .agg #[.slice ha hl hc, .slice sa sl sc]
set_option maxRecDepth 100000 in
set_option maxHeartbeats 2000000 in
theorem begins_any {H : Type} (ha : Option Addr) (hl hc : Nat) (sa : Option Addr) (sl sc : Nat) (S : Nat → Se) (w : World) (hS : SeasAt w.heap.size w sa sl S) (hs : ∀ i, i < sl → SeIs (S i)) (h12 : sl ≤ 12) :
    Calls Tryd.prog 35 #[calV ha hl hc sa sl sc] w fun e w' => e = .returned (.map (some (w.heap.size + 1))) ∧ w'.ownsMap Tryd.prog 70 (plainElem Tryd.prog 3) (w.heap.size + 1) sl (Bg (H := H) S sl) ∧ Below w.heap.size w w' := by
  have hmm := @run_makeMap Tryd.prog
  have HS := Lib.hid hS
  have HI := Lib.hid hs
  clear hS hs
  go_enter Tryd.func35, Tryd.ntmps35
  go_wp2
  go_loopw [10] (fun i wr => ∃ k : Nat, k ≤ sl ∧ i = .int .i64 k ∧ wr.ownsMap Tryd.prog 70 (plainElem Tryd.prog 3) (w.heap.size + 1) k (Bg (H := H) S k) ∧ Below w.heap.size w wr)
    (fun i _ => sl - (intOf i).toNat)
  case atStart =>
    have e1 : w.heap.size + 1 = (w.alloc (.cells #[.slice ha hl hc, .slice sa sl sc] 25)).heap.size := by rw [World.size_alloc]
    refine ⟨0, Nat.zero_le _, rfl, ?_, ((Below.refl _ _).alloc (Nat.le_refl _) _).alloc (by simp) _⟩
    rw [e1]
    exact World.ownsMap_made _ _ _ _
  case round =>
    obtain ⟨k, hk, rfl, hown, hnx⟩ := hrel
    by_cases hlt : k < sl
    · have hlti : (k : Int) < sl := by omega
      obtain ⟨b, o, rfl, hb, h0, h1, h2⟩ := HS.out.next hnx (Nat.le_refl _) (Nat.le_refl _) k hlt
      have hbd := se_bounds (HI.out k hlt)
      have hnb := (HI.out k hlt).1
      have hst : Bg (H := H) S (k + 1) = (Bg S k).put (.int .i64 (bg S k)) (.lit (.int .i64 (S k).n)) := rfl
      unfold bg at hst
      obtain ⟨s, hsk⟩ : ∃ s, s = S k := ⟨_, rfl⟩
      rw [← hsk] at h0 h1 h2 hbd hnb hst
      obtain ⟨sn, sm, sd⟩ := s
      simp only [] at h0 h1 h2 hbd hnb hst
      obtain ⟨hm, hd⟩ := hbd
      have HST := Lib.hid hst
      clear hst hsk
      have HO := Lib.hid hown
      have HN := Lib.hid hnx
      clear hown hnx
      go_wp2_with fail
      have hmx : Tryd.prog.follows .mixedOrders = true := by kernel_rfl
      obtain ⟨Y, hY⟩ : ∃ Y, (wr.alloc (.cells #[.int .i64 sn, .int .i64 sm, .int .i64 sd] 52)).drew = Y := ⟨_, rfl⟩
      have hy0 : Y.heap[wr.heap.size]? = some (.cells #[.int .i64 sn, .int .i64 sm, .int .i64 sd] 52) := by rw [← hY]; exact heap_alloc_new wr _
      have hyo : Y.ownsMap Tryd.prog 70 (plainElem Tryd.prog 3) (w.heap.size + 1) k (Bg (H := H) S k) := by rw [← hY]; exact (HO.out.alloc _).drew
      have hyb : Below w.heap.size w Y := by rw [← hY]; exact (HN.out.alloc HN.out.size _).drew
      have n0 : Y.cell? ⟨wr.heap.size, 0, none⟩ = some (.int .i64 sn) := cell_of_row Y _ 0 _ _ _ hy0
      have n1 : Y.cell? ⟨wr.heap.size, 1, none⟩ = some (.int .i64 sm) := cell_of_row Y _ 1 _ _ _ hy0
      have n2 : Y.cell? ⟨wr.heap.size, 2, none⟩ = some (.int .i64 sd) := cell_of_row Y _ 2 _ _ _ hy0
      refine wp_region_still_tail 8 hmx (by kernel_rfl) ?_
      change wpStill _ _ (wr.alloc (.cells #[.int .i64 sn, .int .i64 sm, .int .i64 sd] 52)).drew _ _ _
      rw [hY]
      clear hy0
      simp only [List.take_succ_cons, List.take_zero, List.drop_succ_cons, List.drop_zero]
      still_step
      still_step
      still_step
      still_step
      still_step
      still_call ((beginOn_any sm sd hm hd Y).mono fun _ _ h => ⟨h.1, h.2.symm⟩)
      repeat still_step
      refine wpStill_nil ?_
      change wpList _ _ _ _ _ (wr.alloc (.cells #[.int .i64 sn, .int .i64 sm, .int .i64 sd] 52)).drew
      rw [hY]
      clear hY
      have hkey : keyOf Tryd.prog 70 (.int .i64 (bgn sm sd)) = some (.int .i64 (bgn sm sd)) := keyOf_int_mk Tryd.underlying70 (WalkArith.wf_i64 (by unfold bgn; omega))
      refine wpList_mapUpdate_own _ rfl _ _ _ 62 rfl 70 3 lawB Tryd.underlying62 _ (w.heap.size + 1) k _ rfl hyo (by unfold maxLen; omega) _ _ _ rfl rfl hkey _ [] (plainElem_int Tryd.underlying3 (WalkArith.wf_i64 (by omega))) ?_
      intro w1 hown1 hgrow1
      rw [← HST.out] at hown1
      have hb1 := hyb.grown hgrow1 hyb.size (fun j hj => by cases hj; omega)
      have HO1 := Lib.hid hown1
      have HB1 := Lib.hid hb1
      clear hown1 hgrow1 hb1 hyo hyb n0 n1 n2 HO HN
      go_wp2
      go_roundw
      case rel => exact ⟨k + 1, by omega, by go_num, HO1.out, HB1.out⟩
      case measure => first | (simp [intOf]; done) | (simp [intOf]; omega)
    · have hke : k = sl := by omega
      subst hke
      have hnl : ¬ ((k : Int) < k) := by omega
      have HO := Lib.hid hown
      have HN := Lib.hid hnx
      clear hown hnx
      go_wp2
      go_ret
      exact ⟨rfl, HO.out, HN.out⟩
theorem has_of_at {H : Type} {S : Nat → Se} {sl : Nat} {x c : Int} (h : ∀ zd, (Bg (H := H) S sl).atKey (.int .i64 x) zd = .lit (.int .i64 c)) : ∃ i, i < sl ∧ bg S i = x :=
  (has_Bg S x sl).1 (has_true_of_atKey h)
set_option maxRecDepth 100000 in
set_option maxHeartbeats 2000000 in
theorem numberAt_any {H : Type} (B : Nat) (S : Nat → Se) (sl : Nat) (now : Int) (w : World) (hown : w.ownsMap Tryd.prog 70 (plainElem Tryd.prog 3) B sl (Bg (H := H) S sl)) (hs : ∀ i, i < sl → SeIs (S i)) (ha : Apart S sl) :
    Calls Tryd.prog 39 #[.map (some B), .int .i64 now] w fun e w' => (∃ r : Int, SeaIs S sl now r ∧ e = .returned (.int .i64 r)) ∧ Below w.heap.size w w' := by
  have HI := Lib.hid hs
  have HA := Lib.hid ha
  clear hs ha
  go_enter Tryd.func39, Tryd.ntmps39
  go_wp2_with (first
    | (at_range; refine wpList_range_own _ rfl _ 62 rfl 70 3 lawB Tryd.underlying62 _ B sl _ rfl hown ?_; intro w0 hrg0 hg0 hs0)
    | go_in)
  go_frame
  go_loopw [5, 6] (fun x5 x6 wr => ∃ (left : Lit → Bool) (cnt : Nat) (lt la : Int), x5 = .int .i64 lt ∧ x6 = .int .i64 la ∧ NumI S sl now left lt la ∧ wr.ranges Tryd.prog 70 (plainElem Tryd.prog 3) B w.heap.size sl (Bg (H := H) S sl) left cnt ∧ Below w.heap.size w wr)
    (fun _ _ wr => wr.rangeLeft B w.heap.size)
  case atStart => exact ⟨_, _, 0, 0, rfl, rfl, NumI.start, hrg0, (Below.refl _ w).grown hg0 (Nat.le_refl _) (fun j hj => by cases hj)⟩
  case round =>
    obtain ⟨left, cnt, lt, la, rfl, rfl, hN, hrg, hb⟩ := hrel
    have HN := Lib.hid hN
    have HB := Lib.hid hb
    clear hN hb hrg0 hg0 hs0 hown
    go_wp2_with (first
      | (at_next; refine wpList_next_ranges_ii _ rfl _ rfl 70 3 .i64 .i64 lawB Tryd.underlying70 Tryd.underlying3 B w.heap.size sl _ _ _ rfl hrg ?_ ?_)
      | go_in)
    · intro _ hl0
      have ho := hrg.owns
      have HL := Lib.hid hl0
      clear hl0 hrg
      have hbl : 0 ≤ la ∧ la ≤ 1231 := by
        rcases HN.out.2.1 with h | ⟨i, hi, e⟩
        · omega
        · have := bg_bounds HI.out hi; omega
      have hbt : 0 ≤ lt ∧ lt ≤ 1231 := by
        rcases HN.out.2.2 with h | ⟨i, hi, e, _⟩
        · omega
        · have := bg_bounds HI.out hi; omega
      by_cases h0 : lt = 0
      · subst h0
        have hkey : keyOf Tryd.prog 70 (.int .i64 la) = some (.int .i64 la) := keyOf_int_mk Tryd.underlying70 (WalkArith.wf_i64 (by omega))
        clear hbl hbt
        go_wp2_with (first
          | (at_lookup; refine wpList_lookup_own_int _ rfl _ _ 62 rfl 70 3 .i64 lawB Tryd.underlying62 Tryd.underlying3 (zeroI _) B sl _ rfl ho _ _ rfl hkey ?_; intro c hat hwc)
          | go_in)
        go_ret
        exact ⟨⟨c, NumI.season HI.out HA.out HN.out HL.out (by rw [if_pos rfl]; exact hat), rfl⟩, HB.out⟩
      · have H0 := Lib.hid h0
        have hkey : keyOf Tryd.prog 70 (.int .i64 lt) = some (.int .i64 lt) := keyOf_int_mk Tryd.underlying70 (WalkArith.wf_i64 (by omega))
        clear hbl hbt
        go_wp2_with (first
          | (at_lookup; refine wpList_lookup_own_int _ rfl _ _ 62 rfl 70 3 .i64 lawB Tryd.underlying62 Tryd.underlying3 (zeroI _) B sl _ rfl ho _ _ rfl hkey ?_; intro c hat hwc)
          | go_in)
        go_ret
        exact ⟨⟨c, NumI.season HI.out HA.out HN.out HL.out (by rw [if_neg H0.out]; exact hat), rfl⟩, HB.out⟩
    · intro x c w1 cnt1 hwx hwc hlx hat hrg1 hlt hg1 hs1 hen
      have hx := has_of_at hat
      have HX := Lib.hid hx
      have hb1 := HB.out.grown hg1 HB.out.size (fun j hj => by cases hj; exact Nat.le_refl _)
      clear hx hat hwx hwc hlx
      by_cases c1 : la < x <;> by_cases c2 : x ≤ now <;> by_cases c3 : lt < x
      all_goals
        go_wp2
        refine ⟨⟨_, cnt1, _, _, rfl, rfl, NumI.step HN.out HX.out (by simp [c1]) (by simp [c2, c3]), hrg1, hb1⟩, ?_⟩
        rw [hrg1.left_eq, hrg.left_eq]
        exact hlt
end Go.Proofs.YtgedcfgmfhlkdaaDoor
