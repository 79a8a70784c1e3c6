/- The program's Spans. -/
import Derived.Test.YthlpigffjbhmoaaDoorVSli
import Derived.Test.YthlpigffjbhmoaaDoorVGets
set_option linter.unusedVariables false
set_option linter.unusedSimpArgs false
namespace Go.Proofs.YthlpigffjbhmoaaDoor
open Go.RowKit Go.Shelf
/-- The instants of the versions from the E-th on, as far as the q-th more, that lie below u. -/
def spn (l : List Ve) (E q : Nat) (u : Int) : List Int := (((l.drop E).take q).filter fun v => decide (v.f < u)).map (·.f)
theorem spn_zero (l : List Ve) (E : Nat) (u : Int) : spn l E 0 u = [] := by simp [spn]
theorem spn_yes {l : List Ve} {E q : Nat} {u : Int} {v : Ve} (h : l[E + q]? = some v) (hu : v.f < u) : spn l E (q + 1) u = spn l E q u ++ [v.f] := by
  unfold spn
  rw [List.take_add_one, List.getElem?_drop, h]
  simp [hu]
theorem spn_no {l : List Ve} {E q : Nat} {u : Int} {v : Ve} (h : l[E + q]? = some v) (hu : ¬ v.f < u) : spn l E (q + 1) u = spn l E q u := by
  unfold spn
  rw [List.take_add_one, List.getElem?_drop, h]
  simp [hu]
theorem spn_all {l : List Ve} (h : TabMay l) (t u : Int) : spn l (cnt l t) (l.length - cnt l t) u = spansL l t u := by
  unfold spn spansL
  rw [if_pos h, List.take_of_length_le (by simp), cnt_drop (tab_pair _ l rfl h), List.filter_filter]
  congr 2
  funext v
  by_cases h1 : t < v.f <;> by_cases h2 : v.f < u <;> simp [h1, h2]
theorem spn_len (l : List Ve) (E q : Nat) (u : Int) : (spn l E q u).length ≤ q := by
  unfold spn
  rw [List.length_map]
  refine Nat.le_trans (List.length_filter_le _ _) ?_
  rw [List.length_take]; omega
def SpansE (B : Nat) (l : List Ve) (t u : Int) (e : Ending) (w' : World) : Prop := ∃ a c, e = .returned (.slice a (spansL l t u).length c) ∧ OwnP B w' (.slice a (spansL l t u).length c) (spansL l t u)
set_option maxRecDepth 100000 in
set_option maxHeartbeats 4000000 in
theorem spans_any (a : Option Addr) (n cap : Nat) (l : List Ve) (hn : l.length = n) (t u : Int) (w : World) (hA : VesAt w.heap.size w a l) (hnx : n ≤ cap ∧ cap ≤ maxLen) :
    Calls Tryd.prog 17 #[.slice a n cap, .int .i64 t, .int .i64 u] w fun e w' => SpansE w.heap.size l t u e w' ∧ Below w.heap.size w w' := by
  have hck := check_any a n cap l hn w hA hnx
  by_cases ht : TabMay l
  case neg =>
    rw [tErr_no ht] at hck
    have HCK := Lib.hid hck
    have HS := Lib.hid (show spansL l t u = [] from if_neg ht)
    clear hck hA hn ht
    go_enter Tryd.func17, Tryd.ntmps17
    go_wp2_with fail
    refine HCK.out.mono ?_
    rintro e w1 ⟨rfl, hB1⟩
    have HB1 := Lib.hid hB1
    clear hB1
    go_wp2
    go_ret
    refine ⟨⟨none, 0, ?_, ?_⟩, HB1.out⟩
    · rw [HS.out]; rfl
    · rw [HS.out]; exact OwnP.nil _ _
  rw [tErr_yes ht] at hck
  have HCK := Lib.hid hck
  have HAF := Lib.hid (fun (W : World) (hB : Below w.heap.size w W) => after_any a n cap l hn t W (hA.grow hB) ht)
  have hEn : cnt l t ≤ n := by rw [← hn]; exact cnt_le l t
  have hall := spn_all ht t u
  rw [hn] at hall
  have hn2 : n ≤ 200 := by rw [← hn]; exact tab_len ht
  obtain ⟨E, hE⟩ : ∃ E, cnt l t = E := ⟨_, rfl⟩
  rw [hE] at HAF hEn hall
  obtain ⟨xs, hxs, hxl, hxr⟩ := rows_of hA (Nat.le_refl _)
  obtain ⟨A, C, hsf, hrd⟩ := slice_from hxs (hxl.trans hn) hnx.1 E hEn
  have HRD := Lib.hid hrd
  have HXR := Lib.hid (hxr w.heap.size (Nat.le_refl _))
  have HXL := Lib.hid hxl
  have HN := Lib.hid hn
  have HALL := Lib.hid hall
  obtain ⟨d, hd⟩ : ∃ d, n - E = d := ⟨_, rfl⟩
  rw [hd] at hsf hall
  have HD := Lib.hid hd
  have hdl : d ≤ 200 := by omega
  clear hck hA hn hE hxs hrd hxr hxl ht hall
  go_enter Tryd.func17, Tryd.ntmps17
  go_wp2_with fail
  refine HCK.out.mono ?_
  rintro e w1 ⟨rfl, hB1⟩
  have HB1 := Lib.hid hB1
  clear hB1
  go_wp2_with fail
  refine (HAF.out w1 HB1.out).mono ?_
  rintro e w2 ⟨rfl, hB2⟩
  have HB2 := Lib.hid (HB1.out.trans (hB2.mono HB1.out.size))
  clear hB2 HAF HCK
  go_wp2_with fail
  go_loopw [7, 19] (fun s i wr => ∃ (q m : Nat) (sa : Option Addr) (sc : Nat), q ≤ d ∧ i = .int .i64 q ∧ s = .slice sa m sc ∧ (spn l E q u).length = m ∧ OwnP w.heap.size wr (.slice sa m sc) (spn l E q u) ∧ Below w.heap.size w wr) (fun _ i _ => (d - intOf i).toNat)
  case atStart => exact ⟨0, 0, none, 0, Nat.zero_le _, rfl, rfl, by rw [spn_zero]; rfl, by rw [spn_zero]; exact OwnP.nil _ _, HB2.out⟩
  case round =>
    obtain ⟨q, m, sa, sc, hq, rfl, rfl, hm, hO, hb⟩ := hrel
    have hmq := spn_len l E q u
    rw [hm] at hmq
    have HM := Lib.hid hm
    have HO := Lib.hid hO
    have HB := Lib.hid hb
    clear hm hO hb HB1 HB2
    by_cases hlt : q < d
    · have hlti : (q : Int) < d := by omega
      obtain ⟨v, hv⟩ : ∃ v, l[E + q]? = some v := ⟨_, List.getElem?_eq_getElem (by rw [HN.out]; have := HD.out; omega)⟩
      obtain ⟨r, hr⟩ : ∃ r, (xs.drop E)[q]? = some r := ⟨_, List.getElem?_eq_getElem (by rw [List.length_drop, HXL.out, HN.out, HD.out]; exact hlt)⟩
      have hpo := HXR.out.2 (E + q) r v (by rw [List.getElem?_drop] at hr; exact hr) hv
      obtain ⟨rf, ra, rn, rc⟩ := r
      obtain ⟨e1, _⟩ := hpo
      simp only at e1
      obtain ⟨b, o, rfl, hbl, c0, c1⟩ := HRD.out.next HB.out (Nat.le_refl _) q _ hr
      simp only at c0 c1
      have HVF := Lib.hid e1
      have hbx := HB.out.alloc HB.out.size (.cells #[.int .i64 rf, .slice ra rn rc] 42)
      have HBX := Lib.hid hbx
      have HOX := Lib.hid (HO.out.below ((Below.refl _ wr).alloc (Nat.le_refl _) (.cells #[.int .i64 rf, .slice ra rn rc] 42)) (Nat.le_refl _))
      by_cases hu : rf < u
      · have HS := Lib.hid (spn_yes hv (by rw [← e1]; exact hu))
        have HSZ : Hid ((wr.alloc (.cells #[.int .i64 rf, .slice ra rn rc] 42)).heap.size = wr.heap.size + 1) := Lib.hid (World.size_alloc _ _)
        have hnz := heap_alloc_new (wr.alloc (.cells #[.int .i64 rf, .slice ra rn rc] 42)) (.cells #[.int .i64 rf] 2)
        rw [HSZ.out] at hnz
        have HNC := Lib.hid (one_price (cell_of_row _ _ 0 _ _ _ hnz))
        have HOY := Lib.hid (HOX.out.below ((Below.refl _ _).alloc (Nat.le_refl _) (.cells #[.int .i64 rf] 2)) (Nat.le_refl _))
        have HBY := Lib.hid (HBX.out.alloc HBX.out.size (.cells #[.int .i64 rf] 2))
        clear hv hr e1 hbx hnz
        go_wp2_with (at_builtin; refine wpList_OwnP rfl (.tmp 27) (.tmp 30) rfl w.heap.size _ (spn l E q u) rfl HOY.out ⟨wr.heap.size + 1, 0, none⟩ 1 1 [rf] rfl rfl HNC.out (m + 1) (by rw [HM.out]) (by omega) HBY.out.size ?_; intro a3 c3 w3 hO3 hG3; refine Hid.out ?_)
        refine Lib.hid ?_
        have hrow := HOY.out.row
        have HB3 := Lib.hid (HBY.out.grown hG3 HBY.out.size (fun k e => (hrow k e).1))
        have HO3 := Lib.hid hO3
        clear hO3 hG3 hrow
        go_wp2
        go_roundw
        case rel => exact ⟨q + 1, m + 1, a3, c3, by omega, by go_num, rfl, by rw [HS.out, List.length_append, HM.out]; rfl, by rw [HS.out, ← HVF.out]; exact HO3.out, HB3.out⟩
        case measure => first | (simp [intOf]; done) | (simp [intOf]; omega)
      · have HS := Lib.hid (spn_no hv (by rw [← e1]; exact hu))
        clear hv hr e1 hbx
        go_wp2
        go_roundw
        case rel => exact ⟨q + 1, m, sa, sc, by omega, by go_num, rfl, by rw [HS.out]; exact HM.out, by rw [HS.out]; exact HOX.out, HBX.out⟩
        case measure => first | (simp [intOf]; done) | (simp [intOf]; omega)
    · have hqe : q = d := by omega
      subst hqe
      have hnl : ¬ ((q : Int) < q) := by omega
      have HFIN := Lib.hid (show spn l E q u = spansL l t u by have := HALL.out; rwa [HD.out] at this)
      go_wp2
      go_ret
      refine ⟨⟨sa, sc, ?_, ?_⟩, HB.out⟩
      · rw [← HFIN.out, HM.out]; rfl
      · rw [← HFIN.out, HM.out]; exact HO.out
end Go.Proofs.YthlpigffjbhmoaaDoor
