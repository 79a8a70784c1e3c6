/- The document's With. -/
import Derived.Test.YthlpigffjbhmoaaVRefWM
import Derived.Test.YthlpigffjbhmoaaVWith
import Derived.Test.YthlpigffjbhmoaaVRef1
set_option linter.unusedVariables false
set_option linter.unusedSimpArgs false
namespace Go.Proofs.Ythlpigffjbhmoaa
open Go.RowKit Go.Shelf
set_option maxRecDepth 100000 in
set_option maxHeartbeats 2000000 in
theorem rWith_bad (a : Option Addr) (n cap : Nat) (l : List Ve) (hn : l.length = n) (f : Int) (pa : Option Addr) (m pc : Nat) (ps : List Int) (hno : ¬ TabMay l) (w : World) (hA : VesAt w.heap.size w a l) (hnx : n ≤ cap ∧ cap ≤ maxLen) :
    Calls Try.prog 11 #[.slice a n cap, verV f pa m pc] w fun e w' => e = .returned (.tuple #[.slice none 0 0, .int .i64 100]) ∧ Below w.heap.size w w' := by
  have hb0 := (Below.refl _ w).alloc (Nat.le_refl _) (.cells #[.int .i64 f, .slice pa m pc] 25)
  have hck := rCheck_any a n cap l hn _ (hA.from hb0 (Nat.le_refl _)) hnx
  rw [tErr_no hno] at hck
  have HCK := Lib.hid hck
  have HB0 := Lib.hid hb0
  clear hck hb0 hA hn hno
  go_enter Try.func11, Try.ntmps11
  go_wp2_with fail
  refine HCK.out.mono ?_
  rintro e w1 ⟨rfl, hB1⟩
  have HB1 := Lib.hid (HB0.out.trans (hB1.mono HB0.out.size))
  clear hB1
  go_wp2
  go_ret2
  exact ⟨rfl, HB1.out⟩
/-- What is put in: the row in a block of its own. -/
theorem below_row {B : Nat} {w W : World} (h : Below B w W) (o : Obj) (hB : B ≤ W.heap.size) : Below B w (W.alloc o) := h.alloc hB o
set_option maxRecDepth 100000 in
set_option maxHeartbeats 8000000 in
theorem rWith_yes (a : Option Addr) (n cap : Nat) (l : List Ve) (hn : l.length = n) (f : Int) (pa : Option Addr) (m pc : Nat) (ps : List Int) (hm : ps.length = m) (htab : TabMay l) (w : World) (hA : VesAt w.heap.size w a l) (hP : PrAt w.heap.size w pa ps) (hnx : n ≤ cap ∧ cap ≤ maxLen) (hmx : m ≤ pc ∧ pc ≤ maxLen) :
    Calls Try.prog 11 #[.slice a n cap, verV f pa m pc] w fun e w' => WithE l ⟨f, ps⟩ e w' ∧ Below w.heap.size w w' := by
  have hb0 := (Below.refl _ w).alloc (Nat.le_refl _) (.cells #[.int .i64 f, .slice pa m pc] 25)
  have hck := rCheck_any a n cap l hn _ (hA.from hb0 (Nat.le_refl _)) hnx
  rw [tErr_yes htab] at hck
  have HCK := Lib.hid hck
  have HB0 := Lib.hid hb0
  have HZ0 := Lib.hid (heap_alloc_new w (.cells #[.int .i64 f, .slice pa m pc] 25))
  have hn2 : n ≤ 200 := by rw [← hn]; exact tab_len htab
  obtain ⟨xs, hxs, hxl, hxr⟩ := rows_of hA (Nat.le_refl _)
  have HXS := Lib.hid hxs
  have HXN := Lib.hid (hxl.trans hn)
  have HRISE := Lib.hid (fun (k : Nat) (z : Rw) (hz : xs[k]? = some z) => rows_rise (hxr w.heap.size (Nat.le_refl _)) (tab_pair _ l rfl htab) hz)
  have HWR := Lib.hid (fun (g : Nat) (W : World) (hg : w.heap.size ≤ g) (hW : Below w.heap.size w W) => (show RwIs W g (wrL xs ⟨f, pa, m, pc⟩) (withL l ⟨f, ps⟩) from ((hxr g hg).wr ⟨rfl, hm.symm, hmx, fun i p hp => by
      obtain ⟨b, o, e, hb, hc⟩ := hP i p hp
      exact ⟨b, o, e, hb, by omega, hc⟩⟩).below hW))
  obtain ⟨M, hM⟩ : ∃ M, withL l ⟨f, ps⟩ = M := ⟨_, rfl⟩
  rw [hM] at HWR
  have HM := Lib.hid hM
  have HTAB := Lib.hid htab
  clear hck hb0 hA hn hP hm htab hxs hxr hxl hM hmx
  go_enter Try.func11, Try.ntmps11
  go_wp2_with fail
  refine HCK.out.mono ?_
  rintro e w1 ⟨rfl, hB1⟩
  have hbw1 := HB0.out.trans (hB1.mono HB0.out.size)
  have hz1 := (hB1.block w.heap.size (by rw [World.size_alloc]; omega)).trans HZ0.out
  have HB1 := Lib.hid hbw1
  have HZ1 := Lib.hid hz1
  clear hB1 hz1 hbw1 HCK HB0 HZ0
  go_wp2_with fail
  go_loopw [6, 7, 8] (fun s d i wr => ∃ (k K : Nat) (va : Option Addr) (vc : Nat) (dv : Bool), k ≤ n ∧ i = .int .i64 k ∧ s = .slice va K vc ∧ d = .bool dv ∧ dn (xs.take k) ⟨f, pa, m, pc⟩ = dv ∧ (wr1 (xs.take k) ⟨f, pa, m, pc⟩).length = K ∧ OwnE (w.heap.size + 1) wr (.slice va K vc) (wr1 (xs.take k) ⟨f, pa, m, pc⟩) ∧ wr.heap[w.heap.size]? = some (.cells #[.int .i64 f, .slice pa m pc] 25 (0, 0)) ∧ Below w.heap.size w wr) (fun _ _ i _ => (n - intOf i).toNat)
  case atStart => exact ⟨0, 0, none, 0, false, Nat.zero_le _, rfl, rfl, rfl, rfl, rfl, OwnE.nil _ _, HZ1.out, HB1.out⟩
  case round =>
    obtain ⟨k, K, va, vc, dv, hk, rfl, rfl, rfl, hdn, hK, hO, hz, hb⟩ := hrel
    have hKl : K ≤ k + 1 := by
      rw [← hK]
      refine Nat.le_trans (wr_len _ _) ?_
      rw [List.length_take]
      omega
    have HDN := Lib.hid hdn
    have HK := Lib.hid hK
    have HO := Lib.hid hO
    have HZ := Lib.hid hz
    have HB := Lib.hid hb
    have hlt0 : w.heap.size < wr.heap.size := (Array.getElem?_eq_some_iff.1 hz).1
    clear hdn hK hO hz hb HB1 HZ1
    by_cases hlt : k < n
    · have hlti : (k : Int) < n := by omega
      obtain ⟨⟨rf, ra, rn, rc⟩, hr⟩ : ∃ r, xs[k]? = some r := ⟨_, List.getElem?_eq_getElem (by rw [HXN.out]; exact hlt)⟩
      have hris := HRISE.out k _ hr
      have HTK := Lib.hid (show xs.take (k + 1) = xs.take k ++ [⟨rf, ra, rn, rc⟩] by rw [List.take_add_one, hr]; rfl)
      have HR := Lib.hid hr
      obtain ⟨b, o, e, hbl, c0, c1⟩ := HXS.out.next HB.out (Nat.le_refl _) k _ hr
      subst e
      simp only at c0 c1
      have z0 : wr.cell? ⟨w.heap.size, 0, none⟩ = some (.int .i64 f) := cell_of_row _ _ 0 _ _ _ HZ.out
      clear hr
      cases dv with
      | true =>
        have hfz : f < rf := dn_rise (r := ⟨f, pa, m, pc⟩) hris HDN.out
        have gne : (rf != f) = true := by simp; omega
        have HST := Lib.hid (wr_more (r := ⟨f, pa, m, pc⟩) (z := ⟨rf, ra, rn, rc⟩) HDN.out hfz)
        clear hris hfz
        go_wp2_with fail
        go_quiet (fail)
        rename_i nq
        obtain ⟨G, hG⟩ : ∃ Z9, wr.drewN nq = Z9 := ⟨_, rfl⟩
        have HO2 := Lib.hid (show OwnE (w.heap.size + 1) G _ _ from hG ▸ (show OwnE (w.heap.size + 1) (wr.drewN nq) _ _ from HO.out))
        have HZ2 := Lib.hid (show G.heap[w.heap.size]? = some (.cells #[.int .i64 f, .slice pa m pc] 25 (0, 0)) from hG ▸ (show (wr.drewN nq).heap[w.heap.size]? = _ from HZ.out))
        have HB2 := Lib.hid (show Below w.heap.size w G from hG ▸ below_drewN HB.out nq)
        rw [hG]
        clear hG c0 c1 z0
        have z0 : G.cell? ⟨w.heap.size, 0, none⟩ = some (.int .i64 f) := cell_of_row _ _ 0 _ _ _ HZ2.out
        have z1 : G.cell? ⟨w.heap.size, 1, none⟩ = some (.slice pa m pc) := cell_of_row _ _ 1 _ _ _ HZ2.out
        obtain ⟨b', o', e', _, c0, c1⟩ := HXS.out.next HB2.out (Nat.le_refl _) k _ HR.out
        cases e'
        simp only at c0 c1
        go_wp2_with fail
        go_quiet (fail)
        rename_i nq
        obtain ⟨G2, hG⟩ : ∃ Z9, G.drewN nq = Z9 := ⟨_, rfl⟩
        have HO3 := Lib.hid (show OwnE (w.heap.size + 1) G2 _ _ from hG ▸ (show OwnE (w.heap.size + 1) (G.drewN nq) _ _ from HO2.out))
        have HZ3 := Lib.hid (show G2.heap[w.heap.size]? = some (.cells #[.int .i64 f, .slice pa m pc] 25 (0, 0)) from hG ▸ (show (G.drewN nq).heap[w.heap.size]? = _ from HZ2.out))
        have HB3 := Lib.hid (show Below w.heap.size w G2 from hG ▸ below_drewN HB2.out nq)
        rw [hG]
        clear hG c0 c1 z0 z1
        have z0 : G2.cell? ⟨w.heap.size, 0, none⟩ = some (.int .i64 f) := cell_of_row _ _ 0 _ _ _ HZ3.out
        have z1 : G2.cell? ⟨w.heap.size, 1, none⟩ = some (.slice pa m pc) := cell_of_row _ _ 1 _ _ _ HZ3.out
        obtain ⟨b', o', e', _, c0, c1⟩ := HXS.out.next HB3.out (Nat.le_refl _) k _ HR.out
        cases e'
        simp only at c0 c1
        have hsz : (G2.alloc (.cells #[.int .i64 rf, .slice ra rn rc] 25)).heap.size = G2.heap.size + 1 := World.size_alloc _ _
        have hnz := heap_alloc_new G2 (.cells #[.int .i64 rf, .slice ra rn rc] 25)
        have HNC := Lib.hid (one_cells (z := ⟨rf, ra, rn, rc⟩) (cell_of_row _ _ 0 _ _ _ hnz) (cell_of_row _ _ 1 _ _ _ hnz))
        have HOX := Lib.hid (HO3.out.below ((Below.refl _ G2).alloc (Nat.le_refl _) (.cells #[.int .i64 rf, .slice ra rn rc] 25)) (Nat.le_refl _))
        have HZX := Lib.hid (heap_old HZ3.out (.cells #[.int .i64 rf, .slice ra rn rc] 25))
        have HBX := Lib.hid (HB3.out.alloc HB3.out.size (.cells #[.int .i64 rf, .slice ra rn rc] 25))
        have HSX := Lib.hid hsz
        have HLG := Lib.hid (show w.heap.size < G2.heap.size from (Array.getElem?_eq_some_iff.1 HZ3.out).1)
        clear hnz hsz
        go_wp2_with (at_builtin; refine wpList_OwnE rfl (.tmp 42) (.tmp 47) rfl (w.heap.size + 1) _ (wr1 (xs.take k) ⟨f, pa, m, pc⟩) rfl HOX.out ⟨G2.heap.size, 0, none⟩ 1 1 [⟨rf, ra, rn, rc⟩] rfl rfl HNC.out (K + 1) (by rw [HK.out]) (by omega) (by rw [HSX.out]; have := HLG.out; omega) ?_; intro w6a w6c w6 hO3 hG3; refine Hid.out ?_)
        refine Lib.hid ?_
        have hrow := HOX.out.row
        have HB6 := Lib.hid (HBX.out.grown hG3 HBX.out.size (fun r e => by have := (hrow r e).1; omega))
        have HZ6 := Lib.hid ((hG3.block w.heap.size (by rw [HSX.out]; have := HLG.out; omega) (fun e => by have := (hrow _ e.symm).1; omega)).trans HZX.out)
        have HO6 := Lib.hid hO3
        clear hO3 hG3 hrow HNC HOX HZX HBX HSX HLG
        clear c0 c1 z0 z1
        go_wp2
        go_roundw
        case rel => exact ⟨k + 1, K + 1, w6a, w6c, true, by omega, by go_num, rfl, rfl, by rw [HTK.out]; exact HST.out.2, by rw [HTK.out, HST.out.1]; rw [List.length_append, HK.out]; rfl, by rw [HTK.out, HST.out.1]; exact HO6.out, HZ6.out, HB6.out⟩
        case measure => first | (simp [intOf]; done) | (simp [intOf]; omega)
      | false =>
        by_cases hge : f ≤ rf
        · by_cases hne : rf = f
          · have gne : (rf != f) = false := by simp [hne]
            have HST := Lib.hid (wr_eq (r := ⟨f, pa, m, pc⟩) (z := ⟨rf, ra, rn, rc⟩) HDN.out hne)
            clear hris hne
            go_wp2_with fail
            go_quiet (fail)
            rename_i nq
            obtain ⟨G, hG⟩ : ∃ Z9, wr.drewN nq = Z9 := ⟨_, rfl⟩
            have HO2 := Lib.hid (show OwnE (w.heap.size + 1) G _ _ from hG ▸ (show OwnE (w.heap.size + 1) (wr.drewN nq) _ _ from HO.out))
            have HZ2 := Lib.hid (show G.heap[w.heap.size]? = some (.cells #[.int .i64 f, .slice pa m pc] 25 (0, 0)) from hG ▸ (show (wr.drewN nq).heap[w.heap.size]? = _ from HZ.out))
            have HB2 := Lib.hid (show Below w.heap.size w G from hG ▸ below_drewN HB.out nq)
            rw [hG]
            clear hG c0 c1 z0
            have z0 : G.cell? ⟨w.heap.size, 0, none⟩ = some (.int .i64 f) := cell_of_row _ _ 0 _ _ _ HZ2.out
            have z1 : G.cell? ⟨w.heap.size, 1, none⟩ = some (.slice pa m pc) := cell_of_row _ _ 1 _ _ _ HZ2.out
            obtain ⟨b', o', e', _, c0, c1⟩ := HXS.out.next HB2.out (Nat.le_refl _) k _ HR.out
            cases e'
            simp only at c0 c1
            have hsz : (G.alloc (.cells #[.int .i64 f, .slice pa m pc] 25)).heap.size = G.heap.size + 1 := World.size_alloc _ _
            have hnz := heap_alloc_new G (.cells #[.int .i64 f, .slice pa m pc] 25)
            have HNC := Lib.hid (one_cells (z := ⟨f, pa, m, pc⟩) (cell_of_row _ _ 0 _ _ _ hnz) (cell_of_row _ _ 1 _ _ _ hnz))
            have HOX := Lib.hid (HO2.out.below ((Below.refl _ G).alloc (Nat.le_refl _) (.cells #[.int .i64 f, .slice pa m pc] 25)) (Nat.le_refl _))
            have HZX := Lib.hid (heap_old HZ2.out (.cells #[.int .i64 f, .slice pa m pc] 25))
            have HBX := Lib.hid (HB2.out.alloc HB2.out.size (.cells #[.int .i64 f, .slice pa m pc] 25))
            have HSX := Lib.hid hsz
            have HLG := Lib.hid (show w.heap.size < G.heap.size from (Array.getElem?_eq_some_iff.1 HZ2.out).1)
            clear hnz hsz
            go_wp2_with (at_builtin; refine wpList_OwnE rfl (.tmp 30) (.tmp 32) rfl (w.heap.size + 1) _ (wr1 (xs.take k) ⟨f, pa, m, pc⟩) rfl HOX.out ⟨G.heap.size, 0, none⟩ 1 1 [⟨f, pa, m, pc⟩] rfl rfl HNC.out (K + 1) (by rw [HK.out]) (by omega) (by rw [HSX.out]; have := HLG.out; omega) ?_; intro w5a w5c w5 hO3 hG3; refine Hid.out ?_)
            refine Lib.hid ?_
            have hrow := HOX.out.row
            have HB5 := Lib.hid (HBX.out.grown hG3 HBX.out.size (fun r e => by have := (hrow r e).1; omega))
            have HZ5 := Lib.hid ((hG3.block w.heap.size (by rw [HSX.out]; have := HLG.out; omega) (fun e => by have := (hrow _ e.symm).1; omega)).trans HZX.out)
            have HO5 := Lib.hid hO3
            clear hO3 hG3 hrow HNC HOX HZX HBX HSX HLG
            clear c0 c1 z0 z1
            have z0 : w5.cell? ⟨w.heap.size, 0, none⟩ = some (.int .i64 f) := cell_of_row _ _ 0 _ _ _ HZ5.out
            have z1 : w5.cell? ⟨w.heap.size, 1, none⟩ = some (.slice pa m pc) := cell_of_row _ _ 1 _ _ _ HZ5.out
            obtain ⟨b', o', e', _, c0, c1⟩ := HXS.out.next HB5.out (Nat.le_refl _) k _ HR.out
            cases e'
            simp only at c0 c1
            go_wp2_with fail
            go_quiet (fail)
            rename_i nq
            obtain ⟨G2, hG⟩ : ∃ Z9, w5.drewN nq = Z9 := ⟨_, rfl⟩
            have HO6 := Lib.hid (show OwnE (w.heap.size + 1) G2 _ _ from hG ▸ (show OwnE (w.heap.size + 1) (w5.drewN nq) _ _ from HO5.out))
            have HZ6 := Lib.hid (show G2.heap[w.heap.size]? = some (.cells #[.int .i64 f, .slice pa m pc] 25 (0, 0)) from hG ▸ (show (w5.drewN nq).heap[w.heap.size]? = _ from HZ5.out))
            have HB6 := Lib.hid (show Below w.heap.size w G2 from hG ▸ below_drewN HB5.out nq)
            rw [hG]
            clear hG c0 c1 z0 z1
            go_wp2
            go_roundw
            case rel => exact ⟨k + 1, K + 1, w5a, w5c, true, by omega, by go_num, rfl, rfl, by rw [HTK.out]; exact HST.out.2, by rw [HTK.out, HST.out.1]; rw [List.length_append, HK.out]; rfl, by rw [HTK.out, HST.out.1]; exact HO6.out, HZ6.out, HB6.out⟩
            case measure => first | (simp [intOf]; done) | (simp [intOf]; omega)
          · have gne : (rf != f) = true := by simp [hne]
            have HST := Lib.hid (wr_in (r := ⟨f, pa, m, pc⟩) (z := ⟨rf, ra, rn, rc⟩) HDN.out (by show f < rf; omega))
            clear hris hne
            go_wp2_with fail
            go_quiet (fail)
            rename_i nq
            obtain ⟨G, hG⟩ : ∃ Z9, wr.drewN nq = Z9 := ⟨_, rfl⟩
            have HO2 := Lib.hid (show OwnE (w.heap.size + 1) G _ _ from hG ▸ (show OwnE (w.heap.size + 1) (wr.drewN nq) _ _ from HO.out))
            have HZ2 := Lib.hid (show G.heap[w.heap.size]? = some (.cells #[.int .i64 f, .slice pa m pc] 25 (0, 0)) from hG ▸ (show (wr.drewN nq).heap[w.heap.size]? = _ from HZ.out))
            have HB2 := Lib.hid (show Below w.heap.size w G from hG ▸ below_drewN HB.out nq)
            rw [hG]
            clear hG c0 c1 z0
            have z0 : G.cell? ⟨w.heap.size, 0, none⟩ = some (.int .i64 f) := cell_of_row _ _ 0 _ _ _ HZ2.out
            have z1 : G.cell? ⟨w.heap.size, 1, none⟩ = some (.slice pa m pc) := cell_of_row _ _ 1 _ _ _ HZ2.out
            obtain ⟨b', o', e', _, c0, c1⟩ := HXS.out.next HB2.out (Nat.le_refl _) k _ HR.out
            cases e'
            simp only at c0 c1
            have hsz : (G.alloc (.cells #[.int .i64 f, .slice pa m pc] 25)).heap.size = G.heap.size + 1 := World.size_alloc _ _
            have hnz := heap_alloc_new G (.cells #[.int .i64 f, .slice pa m pc] 25)
            have HNC := Lib.hid (one_cells (z := ⟨f, pa, m, pc⟩) (cell_of_row _ _ 0 _ _ _ hnz) (cell_of_row _ _ 1 _ _ _ hnz))
            have HOX := Lib.hid (HO2.out.below ((Below.refl _ G).alloc (Nat.le_refl _) (.cells #[.int .i64 f, .slice pa m pc] 25)) (Nat.le_refl _))
            have HZX := Lib.hid (heap_old HZ2.out (.cells #[.int .i64 f, .slice pa m pc] 25))
            have HBX := Lib.hid (HB2.out.alloc HB2.out.size (.cells #[.int .i64 f, .slice pa m pc] 25))
            have HSX := Lib.hid hsz
            have HLG := Lib.hid (show w.heap.size < G.heap.size from (Array.getElem?_eq_some_iff.1 HZ2.out).1)
            clear hnz hsz
            go_wp2_with (at_builtin; refine wpList_OwnE rfl (.tmp 30) (.tmp 32) rfl (w.heap.size + 1) _ (wr1 (xs.take k) ⟨f, pa, m, pc⟩) rfl HOX.out ⟨G.heap.size, 0, none⟩ 1 1 [⟨f, pa, m, pc⟩] rfl rfl HNC.out (K + 1) (by rw [HK.out]) (by omega) (by rw [HSX.out]; have := HLG.out; omega) ?_; intro w5a w5c w5 hO3 hG3; refine Hid.out ?_)
            refine Lib.hid ?_
            have hrow := HOX.out.row
            have HB5 := Lib.hid (HBX.out.grown hG3 HBX.out.size (fun r e => by have := (hrow r e).1; omega))
            have HZ5 := Lib.hid ((hG3.block w.heap.size (by rw [HSX.out]; have := HLG.out; omega) (fun e => by have := (hrow _ e.symm).1; omega)).trans HZX.out)
            have HO5 := Lib.hid hO3
            clear hO3 hG3 hrow HNC HOX HZX HBX HSX HLG
            clear c0 c1 z0 z1
            have z0 : w5.cell? ⟨w.heap.size, 0, none⟩ = some (.int .i64 f) := cell_of_row _ _ 0 _ _ _ HZ5.out
            have z1 : w5.cell? ⟨w.heap.size, 1, none⟩ = some (.slice pa m pc) := cell_of_row _ _ 1 _ _ _ HZ5.out
            obtain ⟨b', o', e', _, c0, c1⟩ := HXS.out.next HB5.out (Nat.le_refl _) k _ HR.out
            cases e'
            simp only at c0 c1
            go_wp2_with fail
            go_quiet (fail)
            rename_i nq
            obtain ⟨G2, hG⟩ : ∃ Z9, w5.drewN nq = Z9 := ⟨_, rfl⟩
            have HO6 := Lib.hid (show OwnE (w.heap.size + 1) G2 _ _ from hG ▸ (show OwnE (w.heap.size + 1) (w5.drewN nq) _ _ from HO5.out))
            have HZ6 := Lib.hid (show G2.heap[w.heap.size]? = some (.cells #[.int .i64 f, .slice pa m pc] 25 (0, 0)) from hG ▸ (show (w5.drewN nq).heap[w.heap.size]? = _ from HZ5.out))
            have HB6 := Lib.hid (show Below w.heap.size w G2 from hG ▸ below_drewN HB5.out nq)
            rw [hG]
            clear hG c0 c1 z0 z1
            have z0 : G2.cell? ⟨w.heap.size, 0, none⟩ = some (.int .i64 f) := cell_of_row _ _ 0 _ _ _ HZ6.out
            have z1 : G2.cell? ⟨w.heap.size, 1, none⟩ = some (.slice pa m pc) := cell_of_row _ _ 1 _ _ _ HZ6.out
            obtain ⟨b', o', e', _, c0, c1⟩ := HXS.out.next HB6.out (Nat.le_refl _) k _ HR.out
            cases e'
            simp only at c0 c1
            have HK2 := Lib.hid (show (wr1 (xs.take k) ⟨f, pa, m, pc⟩ ++ [(⟨f, pa, m, pc⟩ : Rw)]).length = K + 1 by rw [List.length_append, HK.out]; rfl)
            have hsz : (G2.alloc (.cells #[.int .i64 rf, .slice ra rn rc] 25)).heap.size = G2.heap.size + 1 := World.size_alloc _ _
            have hnz := heap_alloc_new G2 (.cells #[.int .i64 rf, .slice ra rn rc] 25)
            have HNC := Lib.hid (one_cells (z := ⟨rf, ra, rn, rc⟩) (cell_of_row _ _ 0 _ _ _ hnz) (cell_of_row _ _ 1 _ _ _ hnz))
            have HOX := Lib.hid (HO6.out.below ((Below.refl _ G2).alloc (Nat.le_refl _) (.cells #[.int .i64 rf, .slice ra rn rc] 25)) (Nat.le_refl _))
            have HZX := Lib.hid (heap_old HZ6.out (.cells #[.int .i64 rf, .slice ra rn rc] 25))
            have HBX := Lib.hid (HB6.out.alloc HB6.out.size (.cells #[.int .i64 rf, .slice ra rn rc] 25))
            have HSX := Lib.hid hsz
            have HLG := Lib.hid (show w.heap.size < G2.heap.size from (Array.getElem?_eq_some_iff.1 HZ6.out).1)
            clear hnz hsz
            go_wp2_with (at_builtin; refine wpList_OwnE rfl (.tmp 42) (.tmp 47) rfl (w.heap.size + 1) _ (wr1 (xs.take k) ⟨f, pa, m, pc⟩ ++ [(⟨f, pa, m, pc⟩ : Rw)]) rfl HOX.out ⟨G2.heap.size, 0, none⟩ 1 1 [⟨rf, ra, rn, rc⟩] rfl rfl HNC.out (K + 1 + 1) (by rw [HK2.out]) (by omega) (by rw [HSX.out]; have := HLG.out; omega) ?_; intro w7a w7c w7 hO3 hG3; refine Hid.out ?_)
            refine Lib.hid ?_
            have hrow := HOX.out.row
            have HB7 := Lib.hid (HBX.out.grown hG3 HBX.out.size (fun r e => by have := (hrow r e).1; omega))
            have HZ7 := Lib.hid ((hG3.block w.heap.size (by rw [HSX.out]; have := HLG.out; omega) (fun e => by have := (hrow _ e.symm).1; omega)).trans HZX.out)
            have HO7 := Lib.hid hO3
            clear hO3 hG3 hrow HNC HOX HZX HBX HSX HLG
            clear c0 c1 z0 z1
            go_wp2
            go_roundw
            case rel => exact ⟨k + 1, K + 1 + 1, w7a, w7c, true, by omega, by go_num, rfl, rfl, by rw [HTK.out]; exact HST.out.2, by rw [HTK.out, HST.out.1]; rw [List.length_append, HK2.out]; rfl, by rw [HTK.out, HST.out.1]; exact HO7.out, HZ7.out, HB7.out⟩
            case measure => first | (simp [intOf]; done) | (simp [intOf]; omega)
        · have gne : (rf != f) = true := by simp; omega
          have HST := Lib.hid (wr_less (r := ⟨f, pa, m, pc⟩) (z := ⟨rf, ra, rn, rc⟩) HDN.out (by show rf < f; omega))
          clear hris
          go_wp2_with fail
          go_quiet (fail)
          rename_i nq
          obtain ⟨G, hG⟩ : ∃ Z9, wr.drewN nq = Z9 := ⟨_, rfl⟩
          have HO2 := Lib.hid (show OwnE (w.heap.size + 1) G _ _ from hG ▸ (show OwnE (w.heap.size + 1) (wr.drewN nq) _ _ from HO.out))
          have HZ2 := Lib.hid (show G.heap[w.heap.size]? = some (.cells #[.int .i64 f, .slice pa m pc] 25 (0, 0)) from hG ▸ (show (wr.drewN nq).heap[w.heap.size]? = _ from HZ.out))
          have HB2 := Lib.hid (show Below w.heap.size w G from hG ▸ below_drewN HB.out nq)
          rw [hG]
          clear hG c0 c1 z0
          have z0 : G.cell? ⟨w.heap.size, 0, none⟩ = some (.int .i64 f) := cell_of_row _ _ 0 _ _ _ HZ2.out
          have z1 : G.cell? ⟨w.heap.size, 1, none⟩ = some (.slice pa m pc) := cell_of_row _ _ 1 _ _ _ HZ2.out
          obtain ⟨b', o', e', _, c0, c1⟩ := HXS.out.next HB2.out (Nat.le_refl _) k _ HR.out
          cases e'
          simp only at c0 c1
          go_wp2_with fail
          go_quiet (fail)
          rename_i nq
          obtain ⟨G2, hG⟩ : ∃ Z9, G.drewN nq = Z9 := ⟨_, rfl⟩
          have HO3 := Lib.hid (show OwnE (w.heap.size + 1) G2 _ _ from hG ▸ (show OwnE (w.heap.size + 1) (G.drewN nq) _ _ from HO2.out))
          have HZ3 := Lib.hid (show G2.heap[w.heap.size]? = some (.cells #[.int .i64 f, .slice pa m pc] 25 (0, 0)) from hG ▸ (show (G.drewN nq).heap[w.heap.size]? = _ from HZ2.out))
          have HB3 := Lib.hid (show Below w.heap.size w G2 from hG ▸ below_drewN HB2.out nq)
          rw [hG]
          clear hG c0 c1 z0 z1
          have z0 : G2.cell? ⟨w.heap.size, 0, none⟩ = some (.int .i64 f) := cell_of_row _ _ 0 _ _ _ HZ3.out
          have z1 : G2.cell? ⟨w.heap.size, 1, none⟩ = some (.slice pa m pc) := cell_of_row _ _ 1 _ _ _ HZ3.out
          obtain ⟨b', o', e', _, c0, c1⟩ := HXS.out.next HB3.out (Nat.le_refl _) k _ HR.out
          cases e'
          simp only at c0 c1
          have hsz : (G2.alloc (.cells #[.int .i64 rf, .slice ra rn rc] 25)).heap.size = G2.heap.size + 1 := World.size_alloc _ _
          have hnz := heap_alloc_new G2 (.cells #[.int .i64 rf, .slice ra rn rc] 25)
          have HNC := Lib.hid (one_cells (z := ⟨rf, ra, rn, rc⟩) (cell_of_row _ _ 0 _ _ _ hnz) (cell_of_row _ _ 1 _ _ _ hnz))
          have HOX := Lib.hid (HO3.out.below ((Below.refl _ G2).alloc (Nat.le_refl _) (.cells #[.int .i64 rf, .slice ra rn rc] 25)) (Nat.le_refl _))
          have HZX := Lib.hid (heap_old HZ3.out (.cells #[.int .i64 rf, .slice ra rn rc] 25))
          have HBX := Lib.hid (HB3.out.alloc HB3.out.size (.cells #[.int .i64 rf, .slice ra rn rc] 25))
          have HSX := Lib.hid hsz
          have HLG := Lib.hid (show w.heap.size < G2.heap.size from (Array.getElem?_eq_some_iff.1 HZ3.out).1)
          clear hnz hsz
          go_wp2_with (at_builtin; refine wpList_OwnE rfl (.tmp 42) (.tmp 47) rfl (w.heap.size + 1) _ (wr1 (xs.take k) ⟨f, pa, m, pc⟩) rfl HOX.out ⟨G2.heap.size, 0, none⟩ 1 1 [⟨rf, ra, rn, rc⟩] rfl rfl HNC.out (K + 1) (by rw [HK.out]) (by omega) (by rw [HSX.out]; have := HLG.out; omega) ?_; intro w6a w6c w6 hO3 hG3; refine Hid.out ?_)
          refine Lib.hid ?_
          have hrow := HOX.out.row
          have HB6 := Lib.hid (HBX.out.grown hG3 HBX.out.size (fun r e => by have := (hrow r e).1; omega))
          have HZ6 := Lib.hid ((hG3.block w.heap.size (by rw [HSX.out]; have := HLG.out; omega) (fun e => by have := (hrow _ e.symm).1; omega)).trans HZX.out)
          have HO6 := Lib.hid hO3
          clear hO3 hG3 hrow HNC HOX HZX HBX HSX HLG
          clear c0 c1 z0 z1
          go_wp2
          go_roundw
          case rel => exact ⟨k + 1, K + 1, w6a, w6c, false, by omega, by go_num, rfl, rfl, by rw [HTK.out]; exact HST.out.2, by rw [HTK.out, HST.out.1]; rw [List.length_append, HK.out]; rfl, by rw [HTK.out, HST.out.1]; exact HO6.out, HZ6.out, HB6.out⟩
          case measure => first | (simp [intOf]; done) | (simp [intOf]; omega)
    · have hke : k = n := by omega
      subst hke
      have hnl : ¬ ((k : Int) < k) := by omega
      have hxt : xs.take k = xs := List.take_of_length_le (by rw [HXN.out]; exact Nat.le_refl _)
      rw [hxt] at HDN HK HO
      clear hxt
      cases dv with
      | true =>
        have hfull := (wr_end (P := xs) (r := ⟨f, pa, m, pc⟩)).1 HDN.out
        rw [hfull] at HK HO
        clear hfull
        have HR5 := Lib.hid (HWR.out w.heap.size wr (Nat.le_refl _) HB.out)
        have hMN : M.length = K := by rw [← HR5.out.1]; exact HK.out
        obtain ⟨hNc, hcm⟩ := HO.out.caps HK.out
        have hck5 := rCheck_any va (K) vc M hMN wr (HO.out.ves HR5.out) ⟨hNc, hcm⟩
        have HMN := Lib.hid hMN
        have HCM := Lib.hid hcm
        clear hMN hcm
        by_cases hMM : TabMay M
        · rw [tErr_yes hMM] at hck5
          have HCK5 := Lib.hid hck5
          have HMM := Lib.hid hMM
          clear hck5 hMM
          go_wp2_with fail
          refine HCK5.out.mono ?_
          rintro e w9 ⟨rfl, hB9⟩
          have HV := Lib.hid ((HO.out.below hB9 (Nat.le_refl _)).ves (HR5.out.below hB9))
          have HB9 := Lib.hid (HB.out.trans (hB9.mono HB.out.size))
          clear hB9 HCK5
          go_wp2
          go_ret2
          exact ⟨.inl ⟨⟨HTAB.out, by rw [HM.out]; exact HMM.out⟩, va, vc, by rw [HM.out, HMN.out]; rfl, by rw [HM.out]; exact HV.out, by rw [HM.out, HMN.out]; exact hNc, HCM.out⟩, HB9.out⟩
        · rw [tErr_no hMM] at hck5
          have HCK5 := Lib.hid hck5
          have HMM := Lib.hid hMM
          clear hck5 hMM
          go_wp2_with fail
          refine HCK5.out.mono ?_
          rintro e w9 ⟨rfl, hB9⟩
          have HB9 := Lib.hid (HB.out.trans (hB9.mono HB.out.size))
          clear hB9 HCK5
          go_wp2
          go_ret2
          exact ⟨.inr ⟨fun h => HMM.out (by rw [← HM.out]; exact h.2), rfl⟩, HB9.out⟩
      | false =>
        have hfull := (wr_end (P := xs) (r := ⟨f, pa, m, pc⟩)).2 HDN.out
        have HFULL := Lib.hid hfull
        clear hfull
        have z0 : wr.cell? ⟨w.heap.size, 0, none⟩ = some (.int .i64 f) := cell_of_row _ _ 0 _ _ _ HZ.out
        have z1 : wr.cell? ⟨w.heap.size, 1, none⟩ = some (.slice pa m pc) := cell_of_row _ _ 1 _ _ _ HZ.out
        have hsz : (wr.alloc (.cells #[.int .i64 f, .slice pa m pc] 25)).heap.size = wr.heap.size + 1 := World.size_alloc _ _
        have hnz := heap_alloc_new wr (.cells #[.int .i64 f, .slice pa m pc] 25)
        have HNC := Lib.hid (one_cells (z := ⟨f, pa, m, pc⟩) (cell_of_row _ _ 0 _ _ _ hnz) (cell_of_row _ _ 1 _ _ _ hnz))
        have HOX := Lib.hid (HO.out.below ((Below.refl _ wr).alloc (Nat.le_refl _) (.cells #[.int .i64 f, .slice pa m pc] 25)) (Nat.le_refl _))
        have HZX := Lib.hid (heap_old HZ.out (.cells #[.int .i64 f, .slice pa m pc] 25))
        have HBX := Lib.hid (HB.out.alloc HB.out.size (.cells #[.int .i64 f, .slice pa m pc] 25))
        have HSX := Lib.hid hsz
        have HLG := Lib.hid (show w.heap.size < wr.heap.size from (Array.getElem?_eq_some_iff.1 HZ.out).1)
        clear hnz hsz
        go_wp2_with (at_builtin; refine wpList_OwnE rfl (.tmp 51) (.tmp 53) rfl (w.heap.size + 1) _ (wr1 xs ⟨f, pa, m, pc⟩) rfl HOX.out ⟨wr.heap.size, 0, none⟩ 1 1 [⟨f, pa, m, pc⟩] rfl rfl HNC.out (K + 1) (by rw [HK.out]) (by omega) (by rw [HSX.out]; have := HLG.out; omega) ?_; intro w6a w6c w6 hO3 hG3; refine Hid.out ?_)
        refine Lib.hid ?_
        have hrow := HOX.out.row
        have HB6 := Lib.hid (HBX.out.grown hG3 HBX.out.size (fun r e => by have := (hrow r e).1; omega))
        have HZ6 := Lib.hid ((hG3.block w.heap.size (by rw [HSX.out]; have := HLG.out; omega) (fun e => by have := (hrow _ e.symm).1; omega)).trans HZX.out)
        have HO6 := Lib.hid hO3
        clear hO3 hG3 hrow HNC HOX HZX HBX HSX HLG
        rw [HFULL.out] at HO6
        have HK6 := Lib.hid (show (wrL xs ⟨f, pa, m, pc⟩).length = K + 1 by rw [← HFULL.out, List.length_append, HK.out]; rfl)
        clear z0 z1
        have HR5 := Lib.hid (HWR.out w.heap.size w6 (Nat.le_refl _) HB6.out)
        have hMN : M.length = K + 1 := by rw [← HR5.out.1]; exact HK6.out
        obtain ⟨hNc, hcm⟩ := HO6.out.caps HK6.out
        have hck5 := rCheck_any w6a (K + 1) w6c M hMN w6 (HO6.out.ves HR5.out) ⟨hNc, hcm⟩
        have HMN := Lib.hid hMN
        have HCM := Lib.hid hcm
        clear hMN hcm
        by_cases hMM : TabMay M
        · rw [tErr_yes hMM] at hck5
          have HCK5 := Lib.hid hck5
          have HMM := Lib.hid hMM
          clear hck5 hMM
          go_wp2_with fail
          refine HCK5.out.mono ?_
          rintro e w9 ⟨rfl, hB9⟩
          have HV := Lib.hid ((HO6.out.below hB9 (Nat.le_refl _)).ves (HR5.out.below hB9))
          have HB9 := Lib.hid (HB6.out.trans (hB9.mono HB6.out.size))
          clear hB9 HCK5
          go_wp2
          go_ret2
          exact ⟨.inl ⟨⟨HTAB.out, by rw [HM.out]; exact HMM.out⟩, w6a, w6c, by rw [HM.out, HMN.out]; rfl, by rw [HM.out]; exact HV.out, by rw [HM.out, HMN.out]; exact hNc, HCM.out⟩, HB9.out⟩
        · rw [tErr_no hMM] at hck5
          have HCK5 := Lib.hid hck5
          have HMM := Lib.hid hMM
          clear hck5 hMM
          go_wp2_with fail
          refine HCK5.out.mono ?_
          rintro e w9 ⟨rfl, hB9⟩
          have HB9 := Lib.hid (HB6.out.trans (hB9.mono HB6.out.size))
          clear hB9 HCK5
          go_wp2
          go_ret2
          exact ⟨.inr ⟨fun h => HMM.out (by rw [← HM.out]; exact h.2), rfl⟩, HB9.out⟩
theorem rWith_any (a : Option Addr) (n cap : Nat) (l : List Ve) (hn : l.length = n) (f : Int) (pa : Option Addr) (m pc : Nat) (ps : List Int) (hm : ps.length = m) (w : World) (hA : VesAt w.heap.size w a l) (hP : PrAt w.heap.size w pa ps) (hnx : n ≤ cap ∧ cap ≤ maxLen) (hmx : m ≤ pc ∧ pc ≤ maxLen) :
    Calls Try.prog 11 #[.slice a n cap, verV f pa m pc] w fun e w' => WithE l ⟨f, ps⟩ e w' ∧ Below w.heap.size w w' := by
  by_cases h : TabMay l
  · exact rWith_yes a n cap l hn f pa m pc ps hm h w hA hP hnx hmx
  · refine (rWith_bad a n cap l hn f pa m pc ps h w hA hnx).mono ?_
    rintro e w' ⟨rfl, hB⟩
    exact ⟨.inr ⟨fun q => h q.1, rfl⟩, hB⟩
end Go.Proofs.Ythlpigffjbhmoaa
