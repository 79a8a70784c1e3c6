/- The program's With. -/
import Derived.Test.YthlpigffjbhmoaaDoorVSli
import Derived.Test.YthlpigffjbhmoaaDoorVGets
import Derived.Deep.RegionHeld3
set_option linter.unusedVariables false
set_option linter.unusedSimpArgs false
namespace Go.Proofs.YthlpigffjbhmoaaDoor
open Go.RowKit Go.Shelf
/-- What With answers. -/
def WithE (l : List Ve) (v : Ve) (e : Ending) (w' : World) : Prop :=
  (WithMay l v ∧ ∃ a c, e = .returned (.tuple #[.slice a (withL l v).length c, .int .i64 0]) ∧ VesAt w'.heap.size w' a (withL l v) ∧ (withL l v).length ≤ c ∧ c ≤ maxLen) ∨ (¬ WithMay l v ∧ e = .returned (.tuple #[.slice none 0 0, .int .i64 100]))
set_option maxRecDepth 100000 in
set_option maxHeartbeats 2000000 in
theorem withP_bad (a : Option Addr) (n cap : Nat) (l : List Ve) (hn : l.length = n) (f : Int) (pa : Option Addr) (m pc : Nat) (ps : List Int) (hno : ¬ TabMay l) (w : World) (hA : VesAt w.heap.size w a l) (hnx : n ≤ cap ∧ cap ≤ maxLen) :
    Calls Tryd.prog 19 #[.slice a n cap, verV f pa m pc] w fun e w' => e = .returned (.tuple #[.slice none 0 0, .int .i64 100]) ∧ Below w.heap.size w w' := by
  have hb0 := (Below.refl _ w).alloc (Nat.le_refl _) (.cells #[.int .i64 f, .slice pa m pc] 42)
  have hck := check_any a n cap l hn _ (hA.from hb0 (Nat.le_refl _)) hnx
  rw [tErr_no hno] at hck
  have HCK := Lib.hid hck
  have HB0 := Lib.hid hb0
  clear hck hb0 hA hn hno
  go_enter Tryd.func19, Tryd.ntmps19
  go_wp2_with fail
  refine HCK.out.mono ?_
  rintro e w1 ⟨rfl, hB1⟩
  have HB1 := Lib.hid (HB0.out.trans (hB1.mono HB0.out.size))
  clear hB1
  go_wp2
  go_ret2
  exact ⟨rfl, HB1.out⟩
set_option maxRecDepth 100000 in
set_option maxHeartbeats 8000000 in
theorem withP_yes (a : Option Addr) (n cap : Nat) (l : List Ve) (hn : l.length = n) (f : Int) (pa : Option Addr) (m pc : Nat) (ps : List Int) (hm : ps.length = m) (htab : TabMay l) (w : World) (hA : VesAt w.heap.size w a l) (hP : PrAt w.heap.size w pa ps) (hnx : n ≤ cap ∧ cap ≤ maxLen) (hmx : m ≤ pc ∧ pc ≤ maxLen) :
    Calls Tryd.prog 19 #[.slice a n cap, verV f pa m pc] w fun e w' => WithE l ⟨f, ps⟩ e w' ∧ Below w.heap.size w w' := by
  have hb0 := (Below.refl _ w).alloc (Nat.le_refl _) (.cells #[.int .i64 f, .slice pa m pc] 42)
  have hck := check_any a n cap l hn _ (hA.from hb0 (Nat.le_refl _)) hnx
  rw [tErr_yes htab] at hck
  have HCK := Lib.hid hck
  have HB0 := Lib.hid hb0
  have HZ0 := Lib.hid (heap_alloc_new w (.cells #[.int .i64 f, .slice pa m pc] 42))
  have HAF := Lib.hid (fun (W : World) (hB : Below w.heap.size w W) => after_any a n cap l hn f W (hA.from hB (Nat.le_refl _)) htab)
  obtain ⟨E, hE⟩ : ∃ E, cnt l f = E := ⟨_, rfl⟩
  rw [hE] at HAF
  have hEn : E ≤ n := by rw [← hE, ← hn]; exact cnt_le l f
  have hn2 : n ≤ 200 := by rw [← hn]; exact tab_len htab
  have hbg := begin_is (tab_pair _ l rfl htab) f
  rw [hE] at hbg
  obtain ⟨xs, hxs, hxl, hxr⟩ := rows_of hA (Nat.le_refl _)
  have hxn : xs.length = n := hxl.trans hn
  obtain ⟨A, C, hsf, hrd⟩ := slice_from hxs hxn hnx.1 E hEn
  have HSF := Lib.hid hsf
  have HRD := Lib.hid hrd
  have HXS := Lib.hid hxs
  have HXR := Lib.hid hxr
  have HXN := Lib.hid hxn
  have HPR := Lib.hid (show PrOf w w.heap.size ⟨f, pa, m, pc⟩ ⟨f, ps⟩ ∧ ∀ g, w.heap.size ≤ g → PrOf w g ⟨f, pa, m, pc⟩ ⟨f, ps⟩ by
    have : ∀ g, w.heap.size ≤ g → PrOf w g ⟨f, pa, m, pc⟩ ⟨f, ps⟩ := fun g hg => ⟨rfl, hm.symm, hmx, fun i p hp => by
      obtain ⟨b, o, e, hb, hc⟩ := hP i p hp
      exact ⟨b, o, e, hb, by omega, hc⟩⟩
    exact ⟨this _ (Nat.le_refl _), this⟩)
  have hwl := withL_is htab ⟨f, ps⟩
  simp only at hwl
  rw [hE] at hwl
  obtain ⟨M, hM⟩ : ∃ M, withL l ⟨f, ps⟩ = M := ⟨_, rfl⟩
  have hML := withL_len htab ⟨f, ps⟩
  rw [hM] at hwl hML
  obtain ⟨N, hN⟩ : ∃ N, M.length = N := ⟨_, rfl⟩
  rw [hN] at hML
  obtain ⟨hN1, hN2⟩ := hML
  have HNN := Lib.hid hN
  have HM := Lib.hid hM
  have HWL := Lib.hid hwl
  have HTAB := Lib.hid htab
  have HA := Lib.hid hA
  have HLN := Lib.hid hn
  have hcap := hnx.1
  have hEc : E ≤ cap := Nat.le_trans hEn hcap
  clear hck hb0 hA hn hP hm htab hsf hrd hxs hxr hxn hxl hwl hM hN hmx hE
  by_cases h0 : E = 0
  · have hB : E = cntB l f := by rcases hbg with q | q <;> omega
    have hg : decide ((0 : Int) < E) = false := decide_eq_false (by omega)
    have hg2 : decide (0 < E) = false := decide_eq_false (by omega)
    have HWB := Lib.hid (show l.take E ++ ⟨f, ps⟩ :: l.drop E = M by have := HWL.out; rwa [← hB] at this)
    clear hbg hB h0
    go_enter Tryd.func19, Tryd.ntmps19
    go_wp2_with fail
    refine HCK.out.mono ?_
    rintro e w1 ⟨rfl, hB1⟩
    have hbw1 := HB0.out.trans (hB1.mono HB0.out.size)
    have hz1 := (hB1.block w.heap.size (by rw [World.size_alloc]; omega)).trans HZ0.out
    have HB1 := Lib.hid hbw1
    have HZ1 := Lib.hid hz1
    have z0 : w1.cell? ⟨w.heap.size, 0, none⟩ = some (.int .i64 f) := cell_of_row _ _ 0 _ _ _ hz1
    have hlt1 : w.heap.size < w1.heap.size := (Array.getElem?_eq_some_iff.1 hz1).1
    clear hB1 hz1 hbw1 HCK
    go_wp2_with fail
    refine (HAF.out w1 HB1.out).mono ?_
    rintro e w2 ⟨rfl, hB2⟩
    have hbw2 := HB1.out.trans (hB2.mono HB1.out.size)
    have hz2 := (hB2.block w.heap.size hlt1).trans HZ1.out
    have HB2 := Lib.hid hbw2
    have HZ2 := Lib.hid hz2
    have hlt2 : w.heap.size < w2.heap.size := (Array.getElem?_eq_some_iff.1 hz2).1
    clear z0
    have z0 : w2.cell? ⟨w.heap.size, 0, none⟩ = some (.int .i64 f) := cell_of_row _ _ 0 _ _ _ hz2
    have z1 : w2.cell? ⟨w.heap.size, 1, none⟩ = some (.slice pa m pc) := cell_of_row _ _ 1 _ _ _ hz2

    clear hB2 hz2 hbw2 HAF
    go_wp2_with fail
    go_quiet (fail)
    rename_i nq
    go_wp2_with fail
    have HBL := Lib.hid (show E ≤ E by omega)
    have hBc : E ≤ cap := Nat.le_trans HBL.out hEc
    obtain ⟨G, hG⟩ : ∃ G, w2.drewN nq = G := ⟨_, rfl⟩
    have hbG : Below w.heap.size w G := by rw [← hG]; exact below_drewN HB2.out nq
    have hzG : G.heap[w.heap.size]? = some (.cells #[.int .i64 f, .slice pa m pc] 42 (0, 0)) := by rw [← hG]; exact HZ2.out
    rw [hG]
    clear hG z0 z1 HB2 HZ2 hlt2 HB1 HZ1 hlt1
    have hsl1 := fun X : World => slice_to X a n cap E hBc
    have hsl2 := HSF.out
    have hs1 : (G.alloc (.cells #[.int .i64 f, .slice pa m pc] 42)).heap.size = G.heap.size + 1 := World.size_alloc _ _
    have hzG1 := heap_old hzG (.cells #[.int .i64 f, .slice pa m pc] 42)
    have hzG2 := heap_old hzG1 (.cells #[.slice a E cap, .slice (some ⟨G.heap.size, 0, none⟩) 1 1, .slice A (n - E) C] 22)
    have hn1 := heap_old (heap_alloc_new G (.cells #[.int .i64 f, .slice pa m pc] 42)) (.cells #[.slice a E cap, .slice (some ⟨G.heap.size, 0, none⟩) 1 1, .slice A (n - E) C] 22)
    have hn2' := heap_alloc_new (G.alloc (.cells #[.int .i64 f, .slice pa m pc] 42)) (.cells #[.slice a E cap, .slice (some ⟨G.heap.size, 0, none⟩) 1 1, .slice A (n - E) C] 22)
    rw [hs1] at hn2'
    have hbY := (hbG.alloc hbG.size (.cells #[.int .i64 f, .slice pa m pc] 42)).alloc (by rw [hs1]; have := hbG.size; omega) (.cells #[.slice a E cap, .slice (some ⟨G.heap.size, 0, none⟩) 1 1, .slice A (n - E) C] 22)
    have hs2 : ((G.alloc (.cells #[.int .i64 f, .slice pa m pc] 42)).alloc (.cells #[.slice a E cap, .slice (some ⟨G.heap.size, 0, none⟩) 1 1, .slice A (n - E) C] 22)).heap.size = G.heap.size + 2 := by rw [World.size_alloc, hs1]
    have q1 : G.drew.cell? ⟨w.heap.size, 0, none⟩ = some (.int .i64 f) ∧ G.drew.cell? ⟨w.heap.size, 1, none⟩ = some (.slice pa m pc) := ⟨cell_of_row G _ 0 _ _ _ hzG, cell_of_row G _ 1 _ _ _ hzG⟩
    have q2 : ((G.alloc (.cells #[.int .i64 f, .slice pa m pc] 42)).drew).cell? ⟨w.heap.size, 0, none⟩ = some (.int .i64 f) ∧ ((G.alloc (.cells #[.int .i64 f, .slice pa m pc] 42)).drew).cell? ⟨w.heap.size, 1, none⟩ = some (.slice pa m pc) := ⟨cell_of_row (G.alloc _) _ 0 _ _ _ hzG1, cell_of_row (G.alloc _) _ 1 _ _ _ hzG1⟩
    have q3 : (((G.alloc (.cells #[.int .i64 f, .slice pa m pc] 42)).alloc (.cells #[.slice a E cap, .slice (some ⟨G.heap.size, 0, none⟩) 1 1, .slice A (n - E) C] 22)).drew).cell? ⟨w.heap.size, 0, none⟩ = some (.int .i64 f) ∧ (((G.alloc (.cells #[.int .i64 f, .slice pa m pc] 42)).alloc (.cells #[.slice a E cap, .slice (some ⟨G.heap.size, 0, none⟩) 1 1, .slice A (n - E) C] 22)).drew).cell? ⟨w.heap.size, 1, none⟩ = some (.slice pa m pc) := ⟨cell_of_row ((G.alloc _).alloc _) _ 0 _ _ _ hzG2, cell_of_row ((G.alloc _).alloc _) _ 1 _ _ _ hzG2⟩
    have HXT := Lib.hid (show (xs.take E).length = E by rw [List.length_take, HXN.out]; have := HBL.out; omega)
    have HXD := Lib.hid (show (xs.drop E).length = n - E by rw [List.length_drop, HXN.out])
    have hpcs : PcsAt (((G.alloc (.cells #[.int .i64 f, .slice pa m pc] 42)).alloc (.cells #[.slice a E cap, .slice (some ⟨G.heap.size, 0, none⟩) 1 1, .slice A (n - E) C] 22)).drew).heap.size (((G.alloc (.cells #[.int .i64 f, .slice pa m pc] 42)).alloc (.cells #[.slice a E cap, .slice (some ⟨G.heap.size, 0, none⟩) 1 1, .slice A (n - E) C] 22)).drew) (some ⟨G.heap.size + 1, 0, none⟩) [⟨a, cap, xs.take E⟩, ⟨some ⟨G.heap.size, 0, none⟩, 1, [⟨f, pa, m, pc⟩]⟩, ⟨A, C, xs.drop E⟩] :=
      pcs3 (by rw [World.size_drew, hs2]; omega) (by rw [World.size_drew, hs2]; omega) (by have := hbG.size; rw [World.size_drew, hs2]; omega) hn2' hn1 HXT.out HXD.out ((HXS.out.next hbY (Nat.le_refl _)).take E) (HRD.out.next hbY (Nat.le_refl _))
    have hfl : flat [⟨a, cap, xs.take E⟩, ⟨some ⟨G.heap.size, 0, none⟩, 1, [⟨f, pa, m, pc⟩]⟩, ⟨A, C, xs.drop E⟩] = xs.take E ++ ⟨f, pa, m, pc⟩ :: xs.drop E := by simp [flat]
    have hfn : (xs.take E ++ (⟨f, pa, m, pc⟩ : Rw) :: xs.drop E).length = N := by
      rw [← HNN.out, ← HWB.out, List.length_append, List.length_append, List.length_cons, List.length_cons, HXT.out, HXD.out, List.length_take, List.length_drop, HLN.out]
      have := HBL.out
      omega
    have hcc := concat_any (some ⟨G.heap.size + 1, 0, none⟩) 3 3 _ rfl (by omega) (by rw [hfl, hfn]; omega) (by rw [hfl, hfn]; omega) _ hpcs
    rw [hfl, hfn] at hcc
    have HCC := Lib.hid hcc
    have HRI := Lib.hid (fun (g : Nat) (W : World) (hg : w.heap.size ≤ g) (hW : Below w.heap.size w W) => (show RwIs W g (xs.take E ++ ⟨f, pa, m, pc⟩ :: xs.drop E) M by
      rw [← HWB.out]
      exact (((HXR.out g hg).take E).app ((RwIs.one (HPR.out.2 g hg)).app ((HXR.out g hg).drop E))).below hW))
    obtain ⟨ys, hys⟩ : ∃ ys, xs.take E ++ (⟨f, pa, m, pc⟩ : Rw) :: xs.drop E = ys := ⟨_, rfl⟩
    rw [hys] at HCC HRI hfn
    have HYN := Lib.hid hfn
    have HBY := Lib.hid hbY
    have HZG2 := Lib.hid hzG2
    have HS2 := Lib.hid hs2
    have HBG := Lib.hid hbG
    clear hpcs hfl hfn hcc hys hbY hzG hzG1 hzG2 hn1 hn2' hbG HWB HXR HPR HXS HRD HXN HXT HXD HWL HSF HZ0 HB0 hs1
    go_region_held3 (fun w' => w'.cell? ⟨w.heap.size, 0, none⟩ = some (.int .i64 f) ∧ w'.cell? ⟨w.heap.size, 1, none⟩ = some (.slice pa m pc))
      (first | (with_reducible exact q1) | (with_reducible exact q2) | (with_reducible exact q3) | (with_reducible exact q4) | go_keep)
      (first | (go_at_call 37; ((with_reducible refine HCC.out.mono ?_); rintro e w5 ⟨⟨g, c, rfl, hO5, hg5⟩, hB5'⟩; have hB5 : Below w.heap.size w w5 := (HBY.out.drew.trans (hB5'.mono HBY.out.size)); have g5 := (hB5'.block w.heap.size (by have := HBG.out.size; rw [World.size_drew, HS2.out]; omega)).trans HZG2.out; have q4 : w5.cell? ⟨w.heap.size, 0, none⟩ = some (.int .i64 f) ∧ w5.cell? ⟨w.heap.size, 1, none⟩ = some (.slice pa m pc) := ⟨cell_of_row w5 _ 0 _ _ _ g5, cell_of_row w5 _ 1 _ _ _ g5⟩; have HG5 := Lib.hid (show w.heap.size ≤ g by have := HBY.out.size; rw [World.size_drew] at hg5; omega); have HO5 := Lib.hid hO5; have HB5 := Lib.hid hB5; clear hO5 hg5 hB5' hB5 g5)))
    all_goals
      rename_i hHeld
      have HHH := Lib.hid hHeld
      clear hHeld q1 q2 q3 q4 hsl1 hsl2 HCC HBY HZG2 HS2
      have HR5 := Lib.hid (HRI.out g w5 HG5.out HB5.out)
      obtain ⟨hNc, hcm⟩ := HO5.out.caps HYN.out
      have hck5 := check_any (some ⟨g, 0, none⟩) N c M HNN.out w5 (HO5.out.ves HR5.out) ⟨hNc, hcm⟩
      by_cases hMM : TabMay M
      · rw [tErr_yes hMM] at hck5
        have HCK5 := Lib.hid hck5
        have HMM := Lib.hid hMM
        have HCM := Lib.hid hcm
        have hcm2 := hcm
        unfold maxLen at hcm2
        clear hck5 hMM hcm
        go_wp2_with fail
        refine HCK5.out.mono ?_
        rintro e w6 ⟨rfl, hB6⟩
        have HR6 := Lib.hid (HR5.out.below hB6)
        have HO6 := Lib.hid (HO5.out.below hB6 (Nat.le_refl _))
        have HB6 := Lib.hid (HB5.out.trans (hB6.mono HB5.out.size))
        clear hB6 HCK5
        go_wp2_with fail
        go_loopw [48] (fun i wr => ∃ (k : Nat) (zs : List Rw), k ≤ N ∧ i = .int .i64 k ∧ zs.length = N ∧ (OwnE w.heap.size wr (.slice (some ⟨g, 0, none⟩) N c) zs ∧ RwIs wr g zs M) ∧ Below w.heap.size w wr) (fun i _ => (N - intOf i).toNat)
        case atStart => exact ⟨0, ys, Nat.zero_le _, rfl, HYN.out, ⟨HO6.out.base (by have := HBG.out.size; rw [World.size_drew, World.size_alloc, World.size_alloc]; omega), HR6.out⟩, HB6.out⟩
        case round =>
          obtain ⟨k, zs, hk, rfl, hzn, ⟨hO, hR⟩, hb⟩ := hrel
          by_cases hlt : k < N
          · have hlti : (k : Int) < N := by omega
            obtain ⟨r, hr⟩ : ∃ r, zs[k]? = some r := ⟨_, List.getElem?_eq_getElem (by omega)⟩
            obtain ⟨v, hv⟩ : ∃ v, M[k]? = some v := ⟨_, List.getElem?_eq_getElem (by rw [HNN.out]; omega)⟩
            have hpo := hR.2 k r v hr hv
            obtain ⟨rf, ra, rn, rc⟩ := r
            obtain ⟨e1, e2, e3, e4⟩ := hpo
            simp only at e1 e2 e3 e4
            have hvm := (tab_ver HMM.out (List.mem_of_getElem? hv)).2.1
            have hgw : g < wr.heap.size := (hO.row g rfl).2
            obtain ⟨d0, d1, d2⟩ := hO.cell hr
            simp only at d1
            have HCL := Lib.hid (clone_any ra rn rc v.ps e2.symm (by omega) (by omega) wr (fun i p hp => by
              obtain ⟨b, o, ee, hb1, _, hc⟩ := e4 i p hp
              exact ⟨b, o, ee, hb1, hc⟩))
            have HO := Lib.hid hO
            have HR := Lib.hid hR
            have HB := Lib.hid hb
            have HZN := Lib.hid hzn
            have HR0 := Lib.hid hr
            have HV0 := Lib.hid hv
            have HE := Lib.hid (show rf = v.f ∧ rn = v.ps.length from ⟨e1, e2⟩)
            clear hO hR hb hzn hr hv e1 e2 e3 e4 hvm
            go_wp2_with fail
            refine HCL.out.mono ?_
            rintro e w7 ⟨⟨a7, c7, rfl, hO7⟩, hB7⟩
            have f0 := HO.out.below hB7 (Nat.le_refl _)
            obtain ⟨x0, x1, x2⟩ := f0.cell HR0.out
            simp only at x1
            have HO7 := Lib.hid hO7
            have HB7 := Lib.hid hB7
            have HF0 := Lib.hid f0
            have HNX := Lib.hid (show OwnE w.heap.size (w7.setCell ⟨g, k * 2 + 1, none⟩ (.slice a7 rn c7)) (.slice (some ⟨g, 0, none⟩) N c) (zs.set k ⟨rf, a7, rn, c7⟩) from f0.set HR0.out)
            have HNR := Lib.hid (show RwIs (w7.setCell ⟨g, k * 2 + 1, none⟩ (.slice a7 rn c7)) g (zs.set k ⟨rf, a7, rn, c7⟩) M from
              HR.out.set HR0.out HV0.out (by rw [World.size_setCell]; exact hB7.size) (fun q hq hqg => (heap_setCell_other w7 ⟨g, k * 2 + 1, none⟩ q _ hqg).trans (hB7.block q hq))
                ⟨HE.out.1, HE.out.2, by have := hO7.caps HE.out.2.symm; exact this, fun i p hp => by
                  obtain ⟨b, ee, hb1, hb2, hc⟩ := hO7.prs i p hp
                  refine ⟨b, 0, ee, by rw [World.size_setCell]; exact hb2, by omega, ?_⟩
                  exact (World.cell?_of_block (a := ⟨b, 0 + i, none⟩) (heap_setCell_other w7 ⟨g, k * 2 + 1, none⟩ b _ (by show b ≠ g; omega))).trans hc⟩)
            have HNB := Lib.hid (show Below w.heap.size w (w7.setCell ⟨g, k * 2 + 1, none⟩ (.slice a7 rn c7)) from (HB.out.trans (hB7.mono HB.out.size)).setCell (p := ⟨g, k * 2 + 1, none⟩) HG5.out _)
            clear hO7 hB7 f0 d0 d1 d2 HCL
            go_wp2
            go_roundw
            case rel => exact ⟨k + 1, _, by omega, by go_num, by rw [List.length_set]; exact HZN.out, ⟨HNX.out, HNR.out⟩, HNB.out⟩
            case measure => first | (simp [intOf]; done) | (simp [intOf]; omega)
          · have hke : k = N := by omega
            subst hke
            have hnl : ¬ ((k : Int) < k) := by omega
            have HV := Lib.hid (hO.ves hR)
            have HB := Lib.hid hb
            clear hO hR hb
            go_wp2
            go_ret2
            exact ⟨.inl ⟨⟨HTAB.out, by rw [HM.out]; exact HMM.out⟩, some ⟨g, 0, none⟩, c, by rw [HM.out, HNN.out]; rfl, by rw [HM.out]; exact HV.out, by rw [HM.out, HNN.out]; exact hNc, HCM.out⟩, HB.out⟩
      · rw [tErr_no hMM] at hck5
        have HCK5 := Lib.hid hck5
        have HMM := Lib.hid hMM
        clear hck5 hMM hcm
        go_wp2_with fail
        refine HCK5.out.mono ?_
        rintro e w6 ⟨rfl, hB6⟩
        have HB6 := Lib.hid (HB5.out.trans (hB6.mono HB5.out.size))
        clear hB6 HCK5
        go_wp2
        go_ret2
        exact ⟨.inr ⟨fun h => HMM.out (by rw [← HM.out]; exact h.2), rfl⟩, HB6.out⟩
  · obtain ⟨j, hjE⟩ : ∃ j, E = j + 1 := ⟨E - 1, by omega⟩
    have HJE := Lib.hid hjE
    obtain ⟨v, hv⟩ : ∃ v, l[j]? = some v := ⟨_, List.getElem?_eq_getElem (by rw [HLN.out]; omega)⟩
    obtain ⟨vf, hvf⟩ : ∃ vf, v.f = vf := ⟨_, rfl⟩
    have HVF := Lib.hid hvf
    have hg : decide ((0 : Int) < (E : Int)) = true := decide_eq_true (by omega)
    have hg2 : decide (0 < E) = true := decide_eq_true (by omega)
    have hg3 : (0 : Int) < (E : Int) := by omega
    have hji : (E : Int) - 1 = j := by omega
    have hjw : IntKind.i64.wrap (j : Int) = (j : Int) := by simp only [IntKind.wrap_i64, wrap64]; omega
    have hjn : (j : Int) < n := by omega
    have HV := Lib.hid hv
    by_cases heq : vf = f
    · have hB : j = cntB l f := by
        rcases hbg with ⟨q, q2⟩ | ⟨q, q2, q3⟩
        · exact absurd (hvf.trans heq) (q2 v (by rw [hjE, Nat.add_sub_cancel]; exact hv) (by omega))
        · omega
      have he : (vf == f) = true := by simp [heq]
      have HWB := Lib.hid (show l.take j ++ ⟨f, ps⟩ :: l.drop E = M by have := HWL.out; rwa [← hB] at this)
      clear hbg hB h0 hv hvf heq hjE
      go_enter Tryd.func19, Tryd.ntmps19
      go_wp2_with fail
      refine HCK.out.mono ?_
      rintro e w1 ⟨rfl, hB1⟩
      have hbw1 := HB0.out.trans (hB1.mono HB0.out.size)
      have hz1 := (hB1.block w.heap.size (by rw [World.size_alloc]; omega)).trans HZ0.out
      have HB1 := Lib.hid hbw1
      have HZ1 := Lib.hid hz1
      have z0 : w1.cell? ⟨w.heap.size, 0, none⟩ = some (.int .i64 f) := cell_of_row _ _ 0 _ _ _ hz1
      have hlt1 : w.heap.size < w1.heap.size := (Array.getElem?_eq_some_iff.1 hz1).1
      clear hB1 hz1 hbw1 HCK
      go_wp2_with fail
      refine (HAF.out w1 HB1.out).mono ?_
      rintro e w2 ⟨rfl, hB2⟩
      have hbw2 := HB1.out.trans (hB2.mono HB1.out.size)
      have hz2 := (hB2.block w.heap.size hlt1).trans HZ1.out
      have HB2 := Lib.hid hbw2
      have HZ2 := Lib.hid hz2
      have hlt2 : w.heap.size < w2.heap.size := (Array.getElem?_eq_some_iff.1 hz2).1
      clear z0
      have z0 : w2.cell? ⟨w.heap.size, 0, none⟩ = some (.int .i64 f) := cell_of_row _ _ 0 _ _ _ hz2
      have z1 : w2.cell? ⟨w.heap.size, 1, none⟩ = some (.slice pa m pc) := cell_of_row _ _ 1 _ _ _ hz2
      obtain ⟨b, o, va, vc, eab, hbl, c0, _, _, _⟩ := HA.out.next HB2.out (Nat.le_refl _) j v HV.out
      subst eab
      rw [HVF.out] at c0
      clear hB2 hz2 hbw2 HAF
      go_wp2_with fail
      go_quiet (fail)
      rename_i nq
      go_wp2_with fail
      have HBL := Lib.hid (show j ≤ E by have := HJE.out; omega)
      have hBc : j ≤ cap := Nat.le_trans HBL.out hEc
      obtain ⟨G, hG⟩ : ∃ G, w2.drewN nq = G := ⟨_, rfl⟩
      have hbG : Below w.heap.size w G := by rw [← hG]; exact below_drewN HB2.out nq
      have hzG : G.heap[w.heap.size]? = some (.cells #[.int .i64 f, .slice pa m pc] 42 (0, 0)) := by rw [← hG]; exact HZ2.out
      rw [hG]
      clear hG z0 z1 HB2 HZ2 hlt2 HB1 HZ1 hlt1 c0
      have hsl1 := fun X : World => slice_to X (some ⟨b, o, none⟩) n cap j hBc
      have hsl2 := HSF.out
      have hs1 : (G.alloc (.cells #[.int .i64 f, .slice pa m pc] 42)).heap.size = G.heap.size + 1 := World.size_alloc _ _
      have hzG1 := heap_old hzG (.cells #[.int .i64 f, .slice pa m pc] 42)
      have hzG2 := heap_old hzG1 (.cells #[.slice (some ⟨b, o, none⟩) j cap, .slice (some ⟨G.heap.size, 0, none⟩) 1 1, .slice A (n - E) C] 22)
      have hn1 := heap_old (heap_alloc_new G (.cells #[.int .i64 f, .slice pa m pc] 42)) (.cells #[.slice (some ⟨b, o, none⟩) j cap, .slice (some ⟨G.heap.size, 0, none⟩) 1 1, .slice A (n - E) C] 22)
      have hn2' := heap_alloc_new (G.alloc (.cells #[.int .i64 f, .slice pa m pc] 42)) (.cells #[.slice (some ⟨b, o, none⟩) j cap, .slice (some ⟨G.heap.size, 0, none⟩) 1 1, .slice A (n - E) C] 22)
      rw [hs1] at hn2'
      have hbY := (hbG.alloc hbG.size (.cells #[.int .i64 f, .slice pa m pc] 42)).alloc (by rw [hs1]; have := hbG.size; omega) (.cells #[.slice (some ⟨b, o, none⟩) j cap, .slice (some ⟨G.heap.size, 0, none⟩) 1 1, .slice A (n - E) C] 22)
      have hs2 : ((G.alloc (.cells #[.int .i64 f, .slice pa m pc] 42)).alloc (.cells #[.slice (some ⟨b, o, none⟩) j cap, .slice (some ⟨G.heap.size, 0, none⟩) 1 1, .slice A (n - E) C] 22)).heap.size = G.heap.size + 2 := by rw [World.size_alloc, hs1]
      have q1 : G.drew.cell? ⟨w.heap.size, 0, none⟩ = some (.int .i64 f) ∧ G.drew.cell? ⟨w.heap.size, 1, none⟩ = some (.slice pa m pc) := ⟨cell_of_row G _ 0 _ _ _ hzG, cell_of_row G _ 1 _ _ _ hzG⟩
      have q2 : ((G.alloc (.cells #[.int .i64 f, .slice pa m pc] 42)).drew).cell? ⟨w.heap.size, 0, none⟩ = some (.int .i64 f) ∧ ((G.alloc (.cells #[.int .i64 f, .slice pa m pc] 42)).drew).cell? ⟨w.heap.size, 1, none⟩ = some (.slice pa m pc) := ⟨cell_of_row (G.alloc _) _ 0 _ _ _ hzG1, cell_of_row (G.alloc _) _ 1 _ _ _ hzG1⟩
      have q3 : (((G.alloc (.cells #[.int .i64 f, .slice pa m pc] 42)).alloc (.cells #[.slice (some ⟨b, o, none⟩) j cap, .slice (some ⟨G.heap.size, 0, none⟩) 1 1, .slice A (n - E) C] 22)).drew).cell? ⟨w.heap.size, 0, none⟩ = some (.int .i64 f) ∧ (((G.alloc (.cells #[.int .i64 f, .slice pa m pc] 42)).alloc (.cells #[.slice (some ⟨b, o, none⟩) j cap, .slice (some ⟨G.heap.size, 0, none⟩) 1 1, .slice A (n - E) C] 22)).drew).cell? ⟨w.heap.size, 1, none⟩ = some (.slice pa m pc) := ⟨cell_of_row ((G.alloc _).alloc _) _ 0 _ _ _ hzG2, cell_of_row ((G.alloc _).alloc _) _ 1 _ _ _ hzG2⟩
      have HXT := Lib.hid (show (xs.take j).length = j by rw [List.length_take, HXN.out]; have := HBL.out; omega)
      have HXD := Lib.hid (show (xs.drop E).length = n - E by rw [List.length_drop, HXN.out])
      have hpcs : PcsAt (((G.alloc (.cells #[.int .i64 f, .slice pa m pc] 42)).alloc (.cells #[.slice (some ⟨b, o, none⟩) j cap, .slice (some ⟨G.heap.size, 0, none⟩) 1 1, .slice A (n - E) C] 22)).drew).heap.size (((G.alloc (.cells #[.int .i64 f, .slice pa m pc] 42)).alloc (.cells #[.slice (some ⟨b, o, none⟩) j cap, .slice (some ⟨G.heap.size, 0, none⟩) 1 1, .slice A (n - E) C] 22)).drew) (some ⟨G.heap.size + 1, 0, none⟩) [⟨(some ⟨b, o, none⟩), cap, xs.take j⟩, ⟨some ⟨G.heap.size, 0, none⟩, 1, [⟨f, pa, m, pc⟩]⟩, ⟨A, C, xs.drop E⟩] :=
        pcs3 (by rw [World.size_drew, hs2]; omega) (by rw [World.size_drew, hs2]; omega) (by have := hbG.size; rw [World.size_drew, hs2]; omega) hn2' hn1 HXT.out HXD.out ((HXS.out.next hbY (Nat.le_refl _)).take j) (HRD.out.next hbY (Nat.le_refl _))
      have hfl : flat [⟨(some ⟨b, o, none⟩), cap, xs.take j⟩, ⟨some ⟨G.heap.size, 0, none⟩, 1, [⟨f, pa, m, pc⟩]⟩, ⟨A, C, xs.drop E⟩] = xs.take j ++ ⟨f, pa, m, pc⟩ :: xs.drop E := by simp [flat]
      have hfn : (xs.take j ++ (⟨f, pa, m, pc⟩ : Rw) :: xs.drop E).length = N := by
        rw [← HNN.out, ← HWB.out, List.length_append, List.length_append, List.length_cons, List.length_cons, HXT.out, HXD.out, List.length_take, List.length_drop, HLN.out]
        have := HBL.out
        omega
      have hcc := concat_any (some ⟨G.heap.size + 1, 0, none⟩) 3 3 _ rfl (by omega) (by rw [hfl, hfn]; omega) (by rw [hfl, hfn]; omega) _ hpcs
      rw [hfl, hfn] at hcc
      have HCC := Lib.hid hcc
      have HRI := Lib.hid (fun (g : Nat) (W : World) (hg : w.heap.size ≤ g) (hW : Below w.heap.size w W) => (show RwIs W g (xs.take j ++ ⟨f, pa, m, pc⟩ :: xs.drop E) M by
        rw [← HWB.out]
        exact (((HXR.out g hg).take j).app ((RwIs.one (HPR.out.2 g hg)).app ((HXR.out g hg).drop E))).below hW))
      obtain ⟨ys, hys⟩ : ∃ ys, xs.take j ++ (⟨f, pa, m, pc⟩ : Rw) :: xs.drop E = ys := ⟨_, rfl⟩
      rw [hys] at HCC HRI hfn
      have HYN := Lib.hid hfn
      have HBY := Lib.hid hbY
      have HZG2 := Lib.hid hzG2
      have HS2 := Lib.hid hs2
      have HBG := Lib.hid hbG
      clear hpcs hfl hfn hcc hys hbY hzG hzG1 hzG2 hn1 hn2' hbG HWB HXR HPR HXS HRD HXN HXT HXD HWL HSF HZ0 HB0 hs1
      go_region_held3 (fun w' => w'.cell? ⟨w.heap.size, 0, none⟩ = some (.int .i64 f) ∧ w'.cell? ⟨w.heap.size, 1, none⟩ = some (.slice pa m pc))
        (first | (with_reducible exact q1) | (with_reducible exact q2) | (with_reducible exact q3) | (with_reducible exact q4) | go_keep)
        (first | (go_at_call 37; ((with_reducible refine HCC.out.mono ?_); rintro e w5 ⟨⟨g, c, rfl, hO5, hg5⟩, hB5'⟩; have hB5 : Below w.heap.size w w5 := (HBY.out.drew.trans (hB5'.mono HBY.out.size)); have g5 := (hB5'.block w.heap.size (by have := HBG.out.size; rw [World.size_drew, HS2.out]; omega)).trans HZG2.out; have q4 : w5.cell? ⟨w.heap.size, 0, none⟩ = some (.int .i64 f) ∧ w5.cell? ⟨w.heap.size, 1, none⟩ = some (.slice pa m pc) := ⟨cell_of_row w5 _ 0 _ _ _ g5, cell_of_row w5 _ 1 _ _ _ g5⟩; have HG5 := Lib.hid (show w.heap.size ≤ g by have := HBY.out.size; rw [World.size_drew] at hg5; omega); have HO5 := Lib.hid hO5; have HB5 := Lib.hid hB5; clear hO5 hg5 hB5' hB5 g5)))
      all_goals
        rename_i hHeld
        have HHH := Lib.hid hHeld
        clear hHeld q1 q2 q3 q4 hsl1 hsl2 HCC HBY HZG2 HS2
        have HR5 := Lib.hid (HRI.out g w5 HG5.out HB5.out)
        obtain ⟨hNc, hcm⟩ := HO5.out.caps HYN.out
        have hck5 := check_any (some ⟨g, 0, none⟩) N c M HNN.out w5 (HO5.out.ves HR5.out) ⟨hNc, hcm⟩
        by_cases hMM : TabMay M
        · rw [tErr_yes hMM] at hck5
          have HCK5 := Lib.hid hck5
          have HMM := Lib.hid hMM
          have HCM := Lib.hid hcm
          have hcm2 := hcm
          unfold maxLen at hcm2
          clear hck5 hMM hcm
          go_wp2_with fail
          refine HCK5.out.mono ?_
          rintro e w6 ⟨rfl, hB6⟩
          have HR6 := Lib.hid (HR5.out.below hB6)
          have HO6 := Lib.hid (HO5.out.below hB6 (Nat.le_refl _))
          have HB6 := Lib.hid (HB5.out.trans (hB6.mono HB5.out.size))
          clear hB6 HCK5
          go_wp2_with fail
          go_loopw [48] (fun i wr => ∃ (k : Nat) (zs : List Rw), k ≤ N ∧ i = .int .i64 k ∧ zs.length = N ∧ (OwnE w.heap.size wr (.slice (some ⟨g, 0, none⟩) N c) zs ∧ RwIs wr g zs M) ∧ Below w.heap.size w wr) (fun i _ => (N - intOf i).toNat)
          case atStart => exact ⟨0, ys, Nat.zero_le _, rfl, HYN.out, ⟨HO6.out.base (by have := HBG.out.size; rw [World.size_drew, World.size_alloc, World.size_alloc]; omega), HR6.out⟩, HB6.out⟩
          case round =>
            obtain ⟨k, zs, hk, rfl, hzn, ⟨hO, hR⟩, hb⟩ := hrel
            by_cases hlt : k < N
            · have hlti : (k : Int) < N := by omega
              obtain ⟨r, hr⟩ : ∃ r, zs[k]? = some r := ⟨_, List.getElem?_eq_getElem (by omega)⟩
              obtain ⟨v, hv⟩ : ∃ v, M[k]? = some v := ⟨_, List.getElem?_eq_getElem (by rw [HNN.out]; omega)⟩
              have hpo := hR.2 k r v hr hv
              obtain ⟨rf, ra, rn, rc⟩ := r
              obtain ⟨e1, e2, e3, e4⟩ := hpo
              simp only at e1 e2 e3 e4
              have hvm := (tab_ver HMM.out (List.mem_of_getElem? hv)).2.1
              have hgw : g < wr.heap.size := (hO.row g rfl).2
              obtain ⟨d0, d1, d2⟩ := hO.cell hr
              simp only at d1
              have HCL := Lib.hid (clone_any ra rn rc v.ps e2.symm (by omega) (by omega) wr (fun i p hp => by
                obtain ⟨b, o, ee, hb1, _, hc⟩ := e4 i p hp
                exact ⟨b, o, ee, hb1, hc⟩))
              have HO := Lib.hid hO
              have HR := Lib.hid hR
              have HB := Lib.hid hb
              have HZN := Lib.hid hzn
              have HR0 := Lib.hid hr
              have HV0 := Lib.hid hv
              have HE := Lib.hid (show rf = v.f ∧ rn = v.ps.length from ⟨e1, e2⟩)
              clear hO hR hb hzn hr hv e1 e2 e3 e4 hvm
              go_wp2_with fail
              refine HCL.out.mono ?_
              rintro e w7 ⟨⟨a7, c7, rfl, hO7⟩, hB7⟩
              have f0 := HO.out.below hB7 (Nat.le_refl _)
              obtain ⟨x0, x1, x2⟩ := f0.cell HR0.out
              simp only at x1
              have HO7 := Lib.hid hO7
              have HB7 := Lib.hid hB7
              have HF0 := Lib.hid f0
              have HNX := Lib.hid (show OwnE w.heap.size (w7.setCell ⟨g, k * 2 + 1, none⟩ (.slice a7 rn c7)) (.slice (some ⟨g, 0, none⟩) N c) (zs.set k ⟨rf, a7, rn, c7⟩) from f0.set HR0.out)
              have HNR := Lib.hid (show RwIs (w7.setCell ⟨g, k * 2 + 1, none⟩ (.slice a7 rn c7)) g (zs.set k ⟨rf, a7, rn, c7⟩) M from
                HR.out.set HR0.out HV0.out (by rw [World.size_setCell]; exact hB7.size) (fun q hq hqg => (heap_setCell_other w7 ⟨g, k * 2 + 1, none⟩ q _ hqg).trans (hB7.block q hq))
                  ⟨HE.out.1, HE.out.2, by have := hO7.caps HE.out.2.symm; exact this, fun i p hp => by
                    obtain ⟨b, ee, hb1, hb2, hc⟩ := hO7.prs i p hp
                    refine ⟨b, 0, ee, by rw [World.size_setCell]; exact hb2, by omega, ?_⟩
                    exact (World.cell?_of_block (a := ⟨b, 0 + i, none⟩) (heap_setCell_other w7 ⟨g, k * 2 + 1, none⟩ b _ (by show b ≠ g; omega))).trans hc⟩)
              have HNB := Lib.hid (show Below w.heap.size w (w7.setCell ⟨g, k * 2 + 1, none⟩ (.slice a7 rn c7)) from (HB.out.trans (hB7.mono HB.out.size)).setCell (p := ⟨g, k * 2 + 1, none⟩) HG5.out _)
              clear hO7 hB7 f0 d0 d1 d2 HCL
              go_wp2
              go_roundw
              case rel => exact ⟨k + 1, _, by omega, by go_num, by rw [List.length_set]; exact HZN.out, ⟨HNX.out, HNR.out⟩, HNB.out⟩
              case measure => first | (simp [intOf]; done) | (simp [intOf]; omega)
            · have hke : k = N := by omega
              subst hke
              have hnl : ¬ ((k : Int) < k) := by omega
              have HV := Lib.hid (hO.ves hR)
              have HB := Lib.hid hb
              clear hO hR hb
              go_wp2
              go_ret2
              exact ⟨.inl ⟨⟨HTAB.out, by rw [HM.out]; exact HMM.out⟩, some ⟨g, 0, none⟩, c, by rw [HM.out, HNN.out]; rfl, by rw [HM.out]; exact HV.out, by rw [HM.out, HNN.out]; exact hNc, HCM.out⟩, HB.out⟩
        · rw [tErr_no hMM] at hck5
          have HCK5 := Lib.hid hck5
          have HMM := Lib.hid hMM
          clear hck5 hMM hcm
          go_wp2_with fail
          refine HCK5.out.mono ?_
          rintro e w6 ⟨rfl, hB6⟩
          have HB6 := Lib.hid (HB5.out.trans (hB6.mono HB5.out.size))
          clear hB6 HCK5
          go_wp2
          go_ret2
          exact ⟨.inr ⟨fun h => HMM.out (by rw [← HM.out]; exact h.2), rfl⟩, HB6.out⟩
    · have hB : E = cntB l f := by
        rcases hbg with ⟨q, q2⟩ | ⟨q, q2, q3⟩
        · omega
        · exact absurd (hvf.symm.trans (q3 v (by rw [hjE, Nat.add_sub_cancel]; exact hv))) heq
      have he : (vf == f) = false := by simp [heq]
      have HWB := Lib.hid (show l.take E ++ ⟨f, ps⟩ :: l.drop E = M by have := HWL.out; rwa [← hB] at this)
      clear hbg hB h0 hv hvf heq hjE
      go_enter Tryd.func19, Tryd.ntmps19
      go_wp2_with fail
      refine HCK.out.mono ?_
      rintro e w1 ⟨rfl, hB1⟩
      have hbw1 := HB0.out.trans (hB1.mono HB0.out.size)
      have hz1 := (hB1.block w.heap.size (by rw [World.size_alloc]; omega)).trans HZ0.out
      have HB1 := Lib.hid hbw1
      have HZ1 := Lib.hid hz1
      have z0 : w1.cell? ⟨w.heap.size, 0, none⟩ = some (.int .i64 f) := cell_of_row _ _ 0 _ _ _ hz1
      have hlt1 : w.heap.size < w1.heap.size := (Array.getElem?_eq_some_iff.1 hz1).1
      clear hB1 hz1 hbw1 HCK
      go_wp2_with fail
      refine (HAF.out w1 HB1.out).mono ?_
      rintro e w2 ⟨rfl, hB2⟩
      have hbw2 := HB1.out.trans (hB2.mono HB1.out.size)
      have hz2 := (hB2.block w.heap.size hlt1).trans HZ1.out
      have HB2 := Lib.hid hbw2
      have HZ2 := Lib.hid hz2
      have hlt2 : w.heap.size < w2.heap.size := (Array.getElem?_eq_some_iff.1 hz2).1
      clear z0
      have z0 : w2.cell? ⟨w.heap.size, 0, none⟩ = some (.int .i64 f) := cell_of_row _ _ 0 _ _ _ hz2
      have z1 : w2.cell? ⟨w.heap.size, 1, none⟩ = some (.slice pa m pc) := cell_of_row _ _ 1 _ _ _ hz2
      obtain ⟨b, o, va, vc, eab, hbl, c0, _, _, _⟩ := HA.out.next HB2.out (Nat.le_refl _) j v HV.out
      subst eab
      rw [HVF.out] at c0
      clear hB2 hz2 hbw2 HAF
      go_wp2_with fail
      go_quiet (fail)
      rename_i nq
      go_wp2_with fail
      have HBL := Lib.hid (show E ≤ E by omega)
      have hBc : E ≤ cap := Nat.le_trans HBL.out hEc
      obtain ⟨G, hG⟩ : ∃ G, w2.drewN nq = G := ⟨_, rfl⟩
      have hbG : Below w.heap.size w G := by rw [← hG]; exact below_drewN HB2.out nq
      have hzG : G.heap[w.heap.size]? = some (.cells #[.int .i64 f, .slice pa m pc] 42 (0, 0)) := by rw [← hG]; exact HZ2.out
      rw [hG]
      clear hG z0 z1 HB2 HZ2 hlt2 HB1 HZ1 hlt1 c0
      have hsl1 := fun X : World => slice_to X (some ⟨b, o, none⟩) n cap E hBc
      have hsl2 := HSF.out
      have hs1 : (G.alloc (.cells #[.int .i64 f, .slice pa m pc] 42)).heap.size = G.heap.size + 1 := World.size_alloc _ _
      have hzG1 := heap_old hzG (.cells #[.int .i64 f, .slice pa m pc] 42)
      have hzG2 := heap_old hzG1 (.cells #[.slice (some ⟨b, o, none⟩) E cap, .slice (some ⟨G.heap.size, 0, none⟩) 1 1, .slice A (n - E) C] 22)
      have hn1 := heap_old (heap_alloc_new G (.cells #[.int .i64 f, .slice pa m pc] 42)) (.cells #[.slice (some ⟨b, o, none⟩) E cap, .slice (some ⟨G.heap.size, 0, none⟩) 1 1, .slice A (n - E) C] 22)
      have hn2' := heap_alloc_new (G.alloc (.cells #[.int .i64 f, .slice pa m pc] 42)) (.cells #[.slice (some ⟨b, o, none⟩) E cap, .slice (some ⟨G.heap.size, 0, none⟩) 1 1, .slice A (n - E) C] 22)
      rw [hs1] at hn2'
      have hbY := (hbG.alloc hbG.size (.cells #[.int .i64 f, .slice pa m pc] 42)).alloc (by rw [hs1]; have := hbG.size; omega) (.cells #[.slice (some ⟨b, o, none⟩) E cap, .slice (some ⟨G.heap.size, 0, none⟩) 1 1, .slice A (n - E) C] 22)
      have hs2 : ((G.alloc (.cells #[.int .i64 f, .slice pa m pc] 42)).alloc (.cells #[.slice (some ⟨b, o, none⟩) E cap, .slice (some ⟨G.heap.size, 0, none⟩) 1 1, .slice A (n - E) C] 22)).heap.size = G.heap.size + 2 := by rw [World.size_alloc, hs1]
      have q1 : G.drew.cell? ⟨w.heap.size, 0, none⟩ = some (.int .i64 f) ∧ G.drew.cell? ⟨w.heap.size, 1, none⟩ = some (.slice pa m pc) := ⟨cell_of_row G _ 0 _ _ _ hzG, cell_of_row G _ 1 _ _ _ hzG⟩
      have q2 : ((G.alloc (.cells #[.int .i64 f, .slice pa m pc] 42)).drew).cell? ⟨w.heap.size, 0, none⟩ = some (.int .i64 f) ∧ ((G.alloc (.cells #[.int .i64 f, .slice pa m pc] 42)).drew).cell? ⟨w.heap.size, 1, none⟩ = some (.slice pa m pc) := ⟨cell_of_row (G.alloc _) _ 0 _ _ _ hzG1, cell_of_row (G.alloc _) _ 1 _ _ _ hzG1⟩
      have q3 : (((G.alloc (.cells #[.int .i64 f, .slice pa m pc] 42)).alloc (.cells #[.slice (some ⟨b, o, none⟩) E cap, .slice (some ⟨G.heap.size, 0, none⟩) 1 1, .slice A (n - E) C] 22)).drew).cell? ⟨w.heap.size, 0, none⟩ = some (.int .i64 f) ∧ (((G.alloc (.cells #[.int .i64 f, .slice pa m pc] 42)).alloc (.cells #[.slice (some ⟨b, o, none⟩) E cap, .slice (some ⟨G.heap.size, 0, none⟩) 1 1, .slice A (n - E) C] 22)).drew).cell? ⟨w.heap.size, 1, none⟩ = some (.slice pa m pc) := ⟨cell_of_row ((G.alloc _).alloc _) _ 0 _ _ _ hzG2, cell_of_row ((G.alloc _).alloc _) _ 1 _ _ _ hzG2⟩
      have HXT := Lib.hid (show (xs.take E).length = E by rw [List.length_take, HXN.out]; have := HBL.out; omega)
      have HXD := Lib.hid (show (xs.drop E).length = n - E by rw [List.length_drop, HXN.out])
      have hpcs : PcsAt (((G.alloc (.cells #[.int .i64 f, .slice pa m pc] 42)).alloc (.cells #[.slice (some ⟨b, o, none⟩) E cap, .slice (some ⟨G.heap.size, 0, none⟩) 1 1, .slice A (n - E) C] 22)).drew).heap.size (((G.alloc (.cells #[.int .i64 f, .slice pa m pc] 42)).alloc (.cells #[.slice (some ⟨b, o, none⟩) E cap, .slice (some ⟨G.heap.size, 0, none⟩) 1 1, .slice A (n - E) C] 22)).drew) (some ⟨G.heap.size + 1, 0, none⟩) [⟨(some ⟨b, o, none⟩), cap, xs.take E⟩, ⟨some ⟨G.heap.size, 0, none⟩, 1, [⟨f, pa, m, pc⟩]⟩, ⟨A, C, xs.drop E⟩] :=
        pcs3 (by rw [World.size_drew, hs2]; omega) (by rw [World.size_drew, hs2]; omega) (by have := hbG.size; rw [World.size_drew, hs2]; omega) hn2' hn1 HXT.out HXD.out ((HXS.out.next hbY (Nat.le_refl _)).take E) (HRD.out.next hbY (Nat.le_refl _))
      have hfl : flat [⟨(some ⟨b, o, none⟩), cap, xs.take E⟩, ⟨some ⟨G.heap.size, 0, none⟩, 1, [⟨f, pa, m, pc⟩]⟩, ⟨A, C, xs.drop E⟩] = xs.take E ++ ⟨f, pa, m, pc⟩ :: xs.drop E := by simp [flat]
      have hfn : (xs.take E ++ (⟨f, pa, m, pc⟩ : Rw) :: xs.drop E).length = N := by
        rw [← HNN.out, ← HWB.out, List.length_append, List.length_append, List.length_cons, List.length_cons, HXT.out, HXD.out, List.length_take, List.length_drop, HLN.out]
        have := HBL.out
        omega
      have hcc := concat_any (some ⟨G.heap.size + 1, 0, none⟩) 3 3 _ rfl (by omega) (by rw [hfl, hfn]; omega) (by rw [hfl, hfn]; omega) _ hpcs
      rw [hfl, hfn] at hcc
      have HCC := Lib.hid hcc
      have HRI := Lib.hid (fun (g : Nat) (W : World) (hg : w.heap.size ≤ g) (hW : Below w.heap.size w W) => (show RwIs W g (xs.take E ++ ⟨f, pa, m, pc⟩ :: xs.drop E) M by
        rw [← HWB.out]
        exact (((HXR.out g hg).take E).app ((RwIs.one (HPR.out.2 g hg)).app ((HXR.out g hg).drop E))).below hW))
      obtain ⟨ys, hys⟩ : ∃ ys, xs.take E ++ (⟨f, pa, m, pc⟩ : Rw) :: xs.drop E = ys := ⟨_, rfl⟩
      rw [hys] at HCC HRI hfn
      have HYN := Lib.hid hfn
      have HBY := Lib.hid hbY
      have HZG2 := Lib.hid hzG2
      have HS2 := Lib.hid hs2
      have HBG := Lib.hid hbG
      clear hpcs hfl hfn hcc hys hbY hzG hzG1 hzG2 hn1 hn2' hbG HWB HXR HPR HXS HRD HXN HXT HXD HWL HSF HZ0 HB0 hs1
      go_region_held3 (fun w' => w'.cell? ⟨w.heap.size, 0, none⟩ = some (.int .i64 f) ∧ w'.cell? ⟨w.heap.size, 1, none⟩ = some (.slice pa m pc))
        (first | (with_reducible exact q1) | (with_reducible exact q2) | (with_reducible exact q3) | (with_reducible exact q4) | go_keep)
        (first | (go_at_call 37; ((with_reducible refine HCC.out.mono ?_); rintro e w5 ⟨⟨g, c, rfl, hO5, hg5⟩, hB5'⟩; have hB5 : Below w.heap.size w w5 := (HBY.out.drew.trans (hB5'.mono HBY.out.size)); have g5 := (hB5'.block w.heap.size (by have := HBG.out.size; rw [World.size_drew, HS2.out]; omega)).trans HZG2.out; have q4 : w5.cell? ⟨w.heap.size, 0, none⟩ = some (.int .i64 f) ∧ w5.cell? ⟨w.heap.size, 1, none⟩ = some (.slice pa m pc) := ⟨cell_of_row w5 _ 0 _ _ _ g5, cell_of_row w5 _ 1 _ _ _ g5⟩; have HG5 := Lib.hid (show w.heap.size ≤ g by have := HBY.out.size; rw [World.size_drew] at hg5; omega); have HO5 := Lib.hid hO5; have HB5 := Lib.hid hB5; clear hO5 hg5 hB5' hB5 g5)))
      all_goals
        rename_i hHeld
        have HHH := Lib.hid hHeld
        clear hHeld q1 q2 q3 q4 hsl1 hsl2 HCC HBY HZG2 HS2
        have HR5 := Lib.hid (HRI.out g w5 HG5.out HB5.out)
        obtain ⟨hNc, hcm⟩ := HO5.out.caps HYN.out
        have hck5 := check_any (some ⟨g, 0, none⟩) N c M HNN.out w5 (HO5.out.ves HR5.out) ⟨hNc, hcm⟩
        by_cases hMM : TabMay M
        · rw [tErr_yes hMM] at hck5
          have HCK5 := Lib.hid hck5
          have HMM := Lib.hid hMM
          have HCM := Lib.hid hcm
          have hcm2 := hcm
          unfold maxLen at hcm2
          clear hck5 hMM hcm
          go_wp2_with fail
          refine HCK5.out.mono ?_
          rintro e w6 ⟨rfl, hB6⟩
          have HR6 := Lib.hid (HR5.out.below hB6)
          have HO6 := Lib.hid (HO5.out.below hB6 (Nat.le_refl _))
          have HB6 := Lib.hid (HB5.out.trans (hB6.mono HB5.out.size))
          clear hB6 HCK5
          go_wp2_with fail
          go_loopw [48] (fun i wr => ∃ (k : Nat) (zs : List Rw), k ≤ N ∧ i = .int .i64 k ∧ zs.length = N ∧ (OwnE w.heap.size wr (.slice (some ⟨g, 0, none⟩) N c) zs ∧ RwIs wr g zs M) ∧ Below w.heap.size w wr) (fun i _ => (N - intOf i).toNat)
          case atStart => exact ⟨0, ys, Nat.zero_le _, rfl, HYN.out, ⟨HO6.out.base (by have := HBG.out.size; rw [World.size_drew, World.size_alloc, World.size_alloc]; omega), HR6.out⟩, HB6.out⟩
          case round =>
            obtain ⟨k, zs, hk, rfl, hzn, ⟨hO, hR⟩, hb⟩ := hrel
            by_cases hlt : k < N
            · have hlti : (k : Int) < N := by omega
              obtain ⟨r, hr⟩ : ∃ r, zs[k]? = some r := ⟨_, List.getElem?_eq_getElem (by omega)⟩
              obtain ⟨v, hv⟩ : ∃ v, M[k]? = some v := ⟨_, List.getElem?_eq_getElem (by rw [HNN.out]; omega)⟩
              have hpo := hR.2 k r v hr hv
              obtain ⟨rf, ra, rn, rc⟩ := r
              obtain ⟨e1, e2, e3, e4⟩ := hpo
              simp only at e1 e2 e3 e4
              have hvm := (tab_ver HMM.out (List.mem_of_getElem? hv)).2.1
              have hgw : g < wr.heap.size := (hO.row g rfl).2
              obtain ⟨d0, d1, d2⟩ := hO.cell hr
              simp only at d1
              have HCL := Lib.hid (clone_any ra rn rc v.ps e2.symm (by omega) (by omega) wr (fun i p hp => by
                obtain ⟨b, o, ee, hb1, _, hc⟩ := e4 i p hp
                exact ⟨b, o, ee, hb1, hc⟩))
              have HO := Lib.hid hO
              have HR := Lib.hid hR
              have HB := Lib.hid hb
              have HZN := Lib.hid hzn
              have HR0 := Lib.hid hr
              have HV0 := Lib.hid hv
              have HE := Lib.hid (show rf = v.f ∧ rn = v.ps.length from ⟨e1, e2⟩)
              clear hO hR hb hzn hr hv e1 e2 e3 e4 hvm
              go_wp2_with fail
              refine HCL.out.mono ?_
              rintro e w7 ⟨⟨a7, c7, rfl, hO7⟩, hB7⟩
              have f0 := HO.out.below hB7 (Nat.le_refl _)
              obtain ⟨x0, x1, x2⟩ := f0.cell HR0.out
              simp only at x1
              have HO7 := Lib.hid hO7
              have HB7 := Lib.hid hB7
              have HF0 := Lib.hid f0
              have HNX := Lib.hid (show OwnE w.heap.size (w7.setCell ⟨g, k * 2 + 1, none⟩ (.slice a7 rn c7)) (.slice (some ⟨g, 0, none⟩) N c) (zs.set k ⟨rf, a7, rn, c7⟩) from f0.set HR0.out)
              have HNR := Lib.hid (show RwIs (w7.setCell ⟨g, k * 2 + 1, none⟩ (.slice a7 rn c7)) g (zs.set k ⟨rf, a7, rn, c7⟩) M from
                HR.out.set HR0.out HV0.out (by rw [World.size_setCell]; exact hB7.size) (fun q hq hqg => (heap_setCell_other w7 ⟨g, k * 2 + 1, none⟩ q _ hqg).trans (hB7.block q hq))
                  ⟨HE.out.1, HE.out.2, by have := hO7.caps HE.out.2.symm; exact this, fun i p hp => by
                    obtain ⟨b, ee, hb1, hb2, hc⟩ := hO7.prs i p hp
                    refine ⟨b, 0, ee, by rw [World.size_setCell]; exact hb2, by omega, ?_⟩
                    exact (World.cell?_of_block (a := ⟨b, 0 + i, none⟩) (heap_setCell_other w7 ⟨g, k * 2 + 1, none⟩ b _ (by show b ≠ g; omega))).trans hc⟩)
              have HNB := Lib.hid (show Below w.heap.size w (w7.setCell ⟨g, k * 2 + 1, none⟩ (.slice a7 rn c7)) from (HB.out.trans (hB7.mono HB.out.size)).setCell (p := ⟨g, k * 2 + 1, none⟩) HG5.out _)
              clear hO7 hB7 f0 d0 d1 d2 HCL
              go_wp2
              go_roundw
              case rel => exact ⟨k + 1, _, by omega, by go_num, by rw [List.length_set]; exact HZN.out, ⟨HNX.out, HNR.out⟩, HNB.out⟩
              case measure => first | (simp [intOf]; done) | (simp [intOf]; omega)
            · have hke : k = N := by omega
              subst hke
              have hnl : ¬ ((k : Int) < k) := by omega
              have HV := Lib.hid (hO.ves hR)
              have HB := Lib.hid hb
              clear hO hR hb
              go_wp2
              go_ret2
              exact ⟨.inl ⟨⟨HTAB.out, by rw [HM.out]; exact HMM.out⟩, some ⟨g, 0, none⟩, c, by rw [HM.out, HNN.out]; rfl, by rw [HM.out]; exact HV.out, by rw [HM.out, HNN.out]; exact hNc, HCM.out⟩, HB.out⟩
        · rw [tErr_no hMM] at hck5
          have HCK5 := Lib.hid hck5
          have HMM := Lib.hid hMM
          clear hck5 hMM hcm
          go_wp2_with fail
          refine HCK5.out.mono ?_
          rintro e w6 ⟨rfl, hB6⟩
          have HB6 := Lib.hid (HB5.out.trans (hB6.mono HB5.out.size))
          clear hB6 HCK5
          go_wp2
          go_ret2
          exact ⟨.inr ⟨fun h => HMM.out (by rw [← HM.out]; exact h.2), rfl⟩, HB6.out⟩
end Go.Proofs.YthlpigffjbhmoaaDoor
