/- slices.AppendSeq, Collect and Sorted over the iterator holidaysIn. -/
import Derived.Test.YtgedcfgmfhlkdaaDoorHFeast
import Derived.Test.YtgedcfgmfhlkdaaDoorHDate
import Derived.Test.YtgedcfgmfhlkdaaDoorKOf
import Derived.Test.YtgedcfgmfhlkdaaDoorSN
import Derived.Sort.OwnSortedInts
set_option linter.unusedVariables false
set_option linter.unusedSimpArgs false
namespace Go.Proofs.YtgedcfgmfhlkdaaDoor
open Go.RowKit Go.Shelf
attribute [local go_sem] Oper.semAt_some
set_option maxRecDepth 100000 in
set_option maxHeartbeats 4000000 in
theorem appendSeq_any (Bc By : Nat) (ha : Option Addr) (hl hc : Nat) (sa : Option Addr) (sl sc : Nat) (H : Nat → Ho) (y : Int) (hlm : hl ≤ 100) (hho : ∀ i, i < hl → HoIs (H i)) (hy0 : 1970 ≤ y) (hy1 : y ≤ 9999) (w : World) (hBc : Bc < w.heap.size) (hBy : By < w.heap.size) (hC : w.heap[Bc]? = some (.cells #[.slice ha hl hc, .slice sa sl sc] 25 (0, 0))) (hYr : w.heap[By]? = some (.cells #[.int .i64 y] 3 (0, 0))) (hH : HosAt w.heap.size w ha hl H) (hT : Tabs w) :
    Calls Tryd.prog 76 #[.slice none 0 0, .func (.func 57) #[] #[.pointer (some ⟨Bc, 0, none⟩), .pointer (some ⟨By, 0, none⟩)]] w fun e w' => (∃ v, e = .returned v ∧ OwnN w.heap.size w' v (hds H y hl)) ∧ Below w.heap.size w w' := by
  have hb0 := (Below.refl _ w).alloc (Nat.le_refl _) (.cells #[.slice none 0 0] 35)
  have hbx := Boxed.new w 35 (.slice none 0 0)
  have hxs : (w.alloc (.cells #[.slice none 0 0] 35)).heap.size = w.heap.size + 1 := World.size_alloc _ _
  have hown : OwnN w.heap.size (w.alloc (.cells #[.slice none 0 0] 35)) (.slice none 0 0) [] := OwnN.nil _ _
  have hC2 := heap_old hC (.cells #[.slice none 0 0] 35)
  have hY2 := heap_old hYr (.cells #[.slice none 0 0] 35)
  have hH2 : HosAt w.heap.size (w.alloc (.cells #[.slice none 0 0] 35)) ha hl H := hH.next hb0 (Nat.le_refl _) (Nat.le_refl _)
  have hT2 := hT.next hb0
  have h0n := hT.lt
  obtain ⟨X, hX⟩ : ∃ X, X = w.alloc (.cells #[.slice none 0 0] 35) := ⟨_, rfl⟩
  rw [← hX] at hb0 hbx hxs hown hC2 hY2 hH2 hT2
  have HX := Lib.hid hX
  clear hX hC hYr hH hT
  refine (callsIn_wide (n := 4)).1 ?_
  refine callsIn_of_wp_marks Tryd.func76 rfl trivial ?_ rfl
  simp only [Tryd.ntmps76, List.size_toArray, List.length_cons, List.length_nil, Nat.reduceAdd, Nat.reduceSub, Array.replicate_succ, Array.replicate_zero, List.push_toArray, List.append_toArray, List.nil_append, List.cons_append]
  gi_wp2
  rw [← HX.out]
  refine wpIn_rangeFunc_ownG rfl (by omega) (gf := 57) (lb := #[.pointer (some ⟨Bc, 0, none⟩), .pointer (some ⟨By, 0, none⟩)]) rfl trivial (enters_of Tryd.func57 (by kernel_rfl) rfl)
    (hol_stops (4 - 1) (by omega) Bc By w.heap.size ha hl hc sa sl sc H y hlm hho hy0 hy1 hBc hBy h0n X (by omega) hC2 hY2 hH2 hT2) (fun h k => Below.trans h k) (belowK_b (by omega)) (Below.refl _ _) (fun _ => rfl)
    (fun pre W => HoldsN w.heap.size w.heap.size (pre.map Subtype.val) W ∧ Below w.heap.size w W)
    (fun c pre W => False ∧ Below w.heap.size w W)
    (OwnFrom.and (Own.from (holdsN_own w.heap.size w.heap.size (fun pre : List DayE => pre.map Subtype.val)) _) (ownFrom_below (Nat.le_refl _) (by omega)))
    (fun c => OwnFrom.and (Own.from (fun s A B row hs hg hr => hs) _) (ownFrom_below (Nat.le_refl _) (by omega)))
    ⟨⟨_, hbx, hown⟩, hb0⟩
    (fun z => { tmps := #[.slice none 0 0, .func (.func 57) #[] #[.pointer (some ⟨Bc, 0, none⟩), .pointer (some ⟨By, 0, none⟩)], .pointer (some ⟨w.heap.size, 0, none⟩), undef, .slice none 0 0, .int .i64 z.1, .func (.func 57) #[] #[.pointer (some ⟨Bc, 0, none⟩), .pointer (some ⟨By, 0, none⟩)], .int .i64 z.1, undef, undef, undef, undef, undef], defers := [] }) ?assign ?body ?done ?stop
  case assign =>
    intro l z W K hK
    unfold encE
    gi_wp2
    exact hK
  case body =>
    rintro l pre z W ⟨⟨v, h3, hO⟩, hB⟩ hlt
    have hz := z.2
    obtain ⟨a', c', rfl⟩ := hO.form
    have hvc := h3.cell
    have hvf := h3.frozen
    have hpl : pre.length < 200 := by
      have h1 := hds_len H y hl
      have h2 : (hdL H y hl).length = (hds H y hl).length := by rw [← hdL_map hy0 hy1 hl, List.length_map]
      omega
    have hll : (pre.map Subtype.val).length < 200 := by rw [List.length_map]; exact hpl
    obtain ⟨L, hL⟩ : ∃ L, L = pre.map Subtype.val := ⟨_, rfl⟩
    rw [← hL] at hO hvc h3 hll
    have hbo := bysN_alloc (T := 3) W [z.1] (by intro q hq; simp at hq; subst hq; omega) #[.int .i64 z.1] rfl 1 1 rfl (0, 0)
    have hOa : OwnN w.heap.size (W.alloc (.cells #[.int .i64 z.1] 3)) (.slice a' L.length c') L := hO.below ((Below.refl _ _).alloc (Nat.le_refl _) _) (Nat.le_refl _)
    have hws := hB.size
    have HB := Lib.hid hB
    have H3 := Lib.hid h3
    have HO := Lib.hid hO
    have HL := Lib.hid hL
    clear hB hL hC2 hY2 hH2 hT2 hbx hown hb0 hpl
    gi_wp2_with (first
      | (gi_at_builtin; refine wpListIn_bappN rfl (.tmp 8) (.tmp 10) rfl w.heap.size _ L rfl hOa _ (some ⟨W.heap.size, 0, none⟩) 1 1 [z.1] rfl hbo (by simp; omega) (by simp; omega) ?_; intro a2 c2 W2 hO2' hG2
         obtain ⟨hk1, hk2, hk3, hk4, hk5⟩ := h3.appended (by decide) hO.2 (by omega) (Nat.le_refl _) hO2'.2 hG2
         have sc := hk1.cell
         have sf := hk1.frozen))
    have e2 : L.length + 1 = (L ++ [z.1]).length := by simp
    rw [e2]
    exact ⟨hk4.from _, hk5, ⟨_, hk2, by rw [List.map_append, ← HL.out]; exact ⟨hO2'.1, hk3⟩⟩, HB.out.trans hk5⟩
  case done =>
    rintro DD ys W hD rfl ⟨⟨v, h3, hO⟩, hB⟩ hK
    rw [hdL_map hy0 hy1 hl] at hO
    have hvc := h3.cell
    have HB := Lib.hid hB
    have HK := Lib.hid hK
    have HO := Lib.hid hO
    clear hB hK hO h3 hC2 hY2 hH2 hT2 hbx hown hb0
    gi_wp2
    refine ⟨by simp, .inl ⟨_, _, rfl, run_takeDeferred HK.out, ?_⟩⟩
    exact ⟨_, results_tmp rfl _ _ _, ⟨v, rfl, HO.out.1, ownsRow_putObj HO.out.2 _ HK.out rfl⟩, HB.out.trans (belowK_b (w := w) (Nat.le_refl _) _ DD _ _ (by omega) HK.out rfl rfl)⟩
  case stop =>
    rintro DD c pre W hD hpre ⟨hf, hB⟩ hK
    exact hf.elim

theorem OwnN.cells {base g n c : Nat} {W : World} {xs : List Int} (h : OwnN base W (.slice (some ⟨g, 0, none⟩) n c) xs) (h0 : 0 < n) : ∀ j, j < xs.length → W.cell? ⟨g, j, none⟩ = some (.int .i64 (xs.getD j 0)) := by
  intro j hj
  obtain ⟨_, g', cur, e, _, hcell, _, _, _, hv⟩ := h.open h0
  cases e
  have := hv j hj
  simp only [World.cell?, hcell]
  simpa using this
set_option maxRecDepth 100000 in
theorem collect_any (Bc By : Nat) (ha : Option Addr) (hl hc : Nat) (sa : Option Addr) (sl sc : Nat) (H : Nat → Ho) (y : Int) (hlm : hl ≤ 100) (hho : ∀ i, i < hl → HoIs (H i)) (hy0 : 1970 ≤ y) (hy1 : y ≤ 9999) (w : World) (hBc : Bc < w.heap.size) (hBy : By < w.heap.size) (hC : w.heap[Bc]? = some (.cells #[.slice ha hl hc, .slice sa sl sc] 25 (0, 0))) (hYr : w.heap[By]? = some (.cells #[.int .i64 y] 3 (0, 0))) (hH : HosAt w.heap.size w ha hl H) (hT : Tabs w) :
    Calls Tryd.prog 71 #[.func (.func 57) #[] #[.pointer (some ⟨Bc, 0, none⟩), .pointer (some ⟨By, 0, none⟩)]] w fun e w' => (∃ v, e = .returned v ∧ OwnN w.heap.size w' v (hds H y hl)) ∧ Below w.heap.size w w' := by
  have HA := Lib.hid (appendSeq_any Bc By ha hl hc sa sl sc H y hlm hho hy0 hy1 w hBc hBy hC hYr hH hT)
  clear hC hYr hH hT
  go_enter Tryd.func71, Tryd.ntmps71
  go_wp2_with (go_at_call 76; refine HA.out.mono ?_; rintro e w1 ⟨⟨v, rfl, hO⟩, hB⟩; have HO := Lib.hid hO; have HB := Lib.hid hB; clear hO hB)
  go_ret
  exact ⟨⟨v, rfl, HO.out⟩, HB.out⟩
set_option maxRecDepth 100000 in
set_option maxHeartbeats 2000000 in
theorem sorted_any (Bc By : Nat) (ha : Option Addr) (hl hc : Nat) (sa : Option Addr) (sl sc : Nat) (H : Nat → Ho) (y : Int) (hlm : hl ≤ 100) (hho : ∀ i, i < hl → HoIs (H i)) (hy0 : 1970 ≤ y) (hy1 : y ≤ 9999) (w : World) (hBc : Bc < w.heap.size) (hBy : By < w.heap.size) (hC : w.heap[Bc]? = some (.cells #[.slice ha hl hc, .slice sa sl sc] 25 (0, 0))) (hYr : w.heap[By]? = some (.cells #[.int .i64 y] 3 (0, 0))) (hH : HosAt w.heap.size w ha hl H) (hT : Tabs w) :
    Calls Tryd.prog 62 #[.func (.func 57) #[] #[.pointer (some ⟨Bc, 0, none⟩), .pointer (some ⟨By, 0, none⟩)]] w fun e w' => (∃ v, e = .returned v ∧ OwnN w.heap.size w' v (srt (hds H y hl))) ∧ Below w.heap.size w w' := by
  have HA := Lib.hid (collect_any Bc By ha hl hc sa sl sc H y hlm hho hy0 hy1 w hBc hBy hC hYr hH hT)
  have hlen := hds_len H y hl
  have hbd : ∀ q ∈ srt (hds H y hl), -9223372036854775808 ≤ q ∧ q < 9223372036854775808 := fun q hq => by
    have a := hds_in hy0 hy1 ((mem_srt _ _).1 hq)
    have b := year_days hy0 hy1
    omega
  have hsl := srt_len (hds H y hl)
  have hnil : hds H y hl = [] → srt (hds H y hl) = [] := fun h => List.eq_nil_of_length_eq_zero (by rw [srt_len, h]; rfl)
  have hdef : (hds H y hl).mergeSort (fun x y => decide (x ≤ y)) = srt (hds H y hl) := rfl
  obtain ⟨zs, hzs⟩ : ∃ zs, zs = hds H y hl := ⟨_, rfl⟩
  obtain ⟨ts, hts⟩ : ∃ ts, ts = srt (hds H y hl) := ⟨_, rfl⟩
  rw [← hzs] at HA hlen hsl hnil hdef
  rw [← hzs] at hts
  rw [← hzs, ← hts]
  rw [← hzs, ← hts] at hbd
  rw [← hts] at hsl hnil hdef
  have HBD := Lib.hid hbd
  have HSL := Lib.hid hsl
  have HDEF := Lib.hid hdef
  have HNIL := Lib.hid hnil
  clear hC hYr hH hT hbd hsl hts hdef hnil hzs
  go_enter Tryd.func62, Tryd.ntmps62
  go_wp2_with fail
  refine HA.out.mono ?_
  rintro e w1 ⟨⟨v, rfl, hO⟩, hB⟩
  by_cases h0 : zs.length = 0
  · have hz : zs = [] := List.eq_nil_of_length_eq_zero h0
    obtain ⟨a', c', rfl⟩ := hO.form
    rw [h0] at hO ⊢
    have HO := Lib.hid hO
    have HB := Lib.hid hB
    have HS := Lib.hid (slices_Sort_int_none a' c' w1)
    have HT0 := Lib.hid (HNIL.out hz)
    clear hO hB
    go_wp2_with (go_at_call 72; refine HS.out.mono ?_; rintro e w2 ⟨rfl, rfl⟩)
    go_ret
    exact ⟨⟨_, rfl, by rw [HT0.out]; have := HO.out; rw [hz] at this; exact this⟩, HB.out⟩
  · obtain ⟨a', c', rfl⟩ := hO.form
    obtain ⟨g, rfl, hg, hgl⟩ := hO.at_ (by omega)
    obtain ⟨_, g', cur, e, _, hcell, hnc, hcm, hcs, hcv⟩ := hO.open (by omega)
    cases e
    have hH := holds_cells hcell hcv
    have hs := slices_Sort_int g 0 c' zs w1 hH hgl (by omega)
    rw [HDEF.out] at hs
    have hbs := fun q os => behind_sort (n := q) (os := os) HSL.out HBD.out hO (by omega) hB.size
    have HS := Lib.hid hs
    have HBS := Lib.hid hbs
    have HB := Lib.hid hB
    have hl2 : ts.length = zs.length := HSL.out
    clear hs hbs hB hO hcell hcv hH hcs
    go_wp2_with fail
    refine HS.out.mono ?_
    rintro e w2 ⟨rfl, hX⟩
    obtain ⟨q4, os4, hw4⟩ := hX
    obtain ⟨hO4, hB4⟩ := HBS.out q4 os4
    rw [← hw4] at hO4 hB4
    clear hw4 HBS HS
    have HO4 := Lib.hid hO4
    have HB4 := Lib.hid (HB.out.trans hB4)
    clear hO4 hB4 HB
    go_wp2
    go_ret
    exact ⟨⟨_, rfl, HO4.out⟩, HB4.out⟩
end Go.Proofs.YtgedcfgmfhlkdaaDoor
