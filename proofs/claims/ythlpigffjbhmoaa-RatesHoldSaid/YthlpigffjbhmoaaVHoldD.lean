/- The statement RatesHold, walked: part D. -/
import Derived.Test.YthlpigffjbhmoaaVHoldR
import Derived.Test.YthlpigffjbhmoaaVRefA
import Derived.Test.YthlpigffjbhmoaaVRefS
set_option linter.unusedVariables false
set_option linter.unusedSimpArgs false
namespace Go.Proofs.Ythlpigffjbhmoaa
open Go.RowKit Go.Shelf
set_option maxRecDepth 100000 in
set_option maxHeartbeats 8000000 in
theorem hold_d0 (a : Option Addr) (n cap : Nat) (l : List Ve) (hn : l.length = n) (t u band : Int) (f : Int) (pa : Option Addr) (m pc : Nat) (ps : List Int) (hm : ps.length = m) (w : World) (hA : VesAt w.heap.size w a l) (hP : PrAt w.heap.size w pa ps) (hnx : n ≤ cap ∧ cap ≤ maxLen) (hmx : m ≤ pc ∧ pc ≤ maxLen) (hm40 : m ≤ 40) (ht : TabMay l) (k : Nat) (v : Ve) (hk : cnt l t = k + 1) (hv : l[k]? = some v) (h2 : 0 ≤ band ∧ band < (v.ps.length : Int)) (h1 : n = k + 1) :
    Calls Try.prog 3 #[.slice a n cap, .int .i64 t, .int .i64 u, .int .i64 band, verV f pa m pc] w fun e w' => e = .returned (.bool true) ∧ Below w.heap.size w w' := by
  have HB0 := Lib.hid ((Below.refl _ w).alloc (Nat.le_refl _) (.cells #[.int .i64 f, .slice pa m pc] 25))
  have HZ0 := Lib.hid (heap_alloc_new w (.cells #[.int .i64 f, .slice pa m pc] 25))
  have HL0 : Hid ((w.alloc (.cells #[.int .i64 f, .slice pa m pc] 25)).heap.size = w.heap.size + 1) := Lib.hid (World.size_alloc _ _)
  have HGR := Lib.hid (fun (W : World) (hB : Below w.heap.size w W) => rGreat_any a n cap l hn W (hA.grow hB) hnx)
  have HCK := Lib.hid (fun (W : World) (hB : Below w.heap.size w W) => check_any a n cap l hn W (hA.grow hB) hnx)
  have HRC := Lib.hid (fun (W : World) (hB : Below w.heap.size w W) => rCheck_any a n cap l hn W (hA.grow hB) hnx)
  have HAT := Lib.hid (fun (W : World) (hB : Below w.heap.size w W) => at_any a n cap l hn t W (hA.grow hB) hnx)
  have HPR := Lib.hid (fun (W : World) (hB : Below w.heap.size w W) => price_any a n cap l hn t band W (hA.grow hB) hnx)
  have HNX := Lib.hid (fun (W : World) (hB : Below w.heap.size w W) => next_any a n cap l hn t W (hA.grow hB) hnx)
  have HWI := Lib.hid (fun (W : World) (hB : Below w.heap.size w W) => withO_any a n cap l hn f pa m pc ps hm W (hA.grow hB) (hP.grow hB) hnx hmx)
  have HRW := Lib.hid (fun (W : World) (hB : Below w.heap.size w W) => rWithO_any a n cap l hn f pa m pc ps hm W (hA.grow hB) (hP.grow hB) hnx hmx)
  have HSP := Lib.hid (fun (W : World) (hB : Below w.heap.size w W) => spans_any a n cap l hn t u W (hA.grow hB) hnx)
  obtain ⟨M, hM⟩ : ∃ M, wT l ⟨f, ps⟩ = M := ⟨_, rfl⟩
  obtain ⟨G, hG⟩ : ∃ G, wG l ⟨f, ps⟩ = G := ⟨_, rfl⟩
  unfold WithO at HWI HRW
  rw [hM, hG] at HWI HRW
  obtain ⟨N, hN⟩ : ∃ N, M.length = N := ⟨_, rfl⟩
  rw [hN] at HWI HRW
  have HMN := Lib.hid hN
  have HA := Lib.hid hA
  have HN := Lib.hid hn
  have hm4 : ¬ (40 : Int) < m := by omega
  have HSPA := Lib.hid (sp_all ht t u)
  have hn2 : n ≤ 200 := by rw [← hn]; exact tab_len ht
  rw [tErr_yes ht] at HCK HRC
  have HRA := Lib.hid (fun (W : World) (hB : Below w.heap.size w W) => rAt_any a n cap l hn t W (hA.grow hB) hnx (tab_pair _ l rfl ht))
  obtain ⟨S, hS⟩ : ∃ S, (spansL l t u).length = S := ⟨_, rfl⟩
  have hS2 : S ≤ n := by
    rw [← hS, ← sp_all ht t u, ← hn]
    exact sp_len _ _ _ _
  unfold SpansE at HSP
  rw [hS] at HSP
  have HSN := Lib.hid hS
  have hver : verO l t = some v := by unfold verO; rw [if_pos ⟨ht, by omega⟩, hk, Nat.add_sub_cancel]; exact hv
  rw [show atO l t = some ((k : Nat) : Int) by unfold atO; rw [if_pos ⟨ht, by omega⟩, hk]; congr 1; omega, optV_some] at HAT
  rw [price_ver hver] at HPR
  rw [show ((cnt l t : Nat) : Int) - 1 = k by omega] at HRA
  have hkn : k < n := by rw [← hn]; exact (List.getElem?_eq_some_iff.1 hv).1
  have hki : (k : Int) < n := by omega
  have hk0 : (0 : Int) ≤ k := by omega
  obtain ⟨q, hq⟩ : ∃ q, v.ps.length = q := ⟨_, rfl⟩
  have hq16 : q ≤ 16 := by have := (tab_ver ht (List.mem_of_getElem? hv)).2.1.2; omega
  have HVK := Lib.hid hv
  have HQ := Lib.hid hq
  obtain ⟨bn, rfl⟩ : ∃ bn : Nat, band = (bn : Int) := ⟨band.toNat, by omega⟩
  have hb0 : (0 : Int) ≤ (bn : Int) := by omega
  have hbq : (bn : Int) < q := by omega
  obtain ⟨p, hp⟩ : ∃ p, v.ps[bn]? = some p := ⟨_, List.getElem?_eq_getElem (by omega)⟩
  rw [if_pos hb0, Int.toNat_natCast, hp, optV_some] at HPR
  have HP := Lib.hid hp
  have hnn : ¬ ((k : Int) + 1 < n) := by omega
  rw [show nextO l t = none by unfold nextO; rw [if_pos ht, hk, List.getElem?_eq_none (by omega)]; rfl, optV_none] at HNX
  clear hA hP hn hm hM hG hN hm40 hS ht hk hv hver hq h1 h2 hp
  go_enter Try.func3, Try.ntmps3
  go_wp2_with fail
  refine (HGR.out _ HB0.out).mono ?_
  rintro e w1 ⟨hg | hg, hB⟩
  all_goals
    subst hg
    have HZw1 := Lib.hid ((hB.block w.heap.size (by rw [HL0.out]; omega)).trans HZ0.out)
    have HLw1 := Lib.hid (show w.heap.size + 1 ≤ w1.heap.size by have := hB.size; have := HL0.out; omega)
    have HBw1 := Lib.hid (HB0.out.trans (hB.mono HB0.out.size))
    clear hB HZ0 HL0 HB0 HGR
  rotate_left
  · go_wp2
    go_ret
    exact ⟨rfl, HBw1.out⟩
  have z0 : w1.cell? ⟨w.heap.size, 0, none⟩ = some (.int .i64 f) := cell_of_row _ _ 0 _ _ _ HZw1.out
  have z1 : w1.cell? ⟨w.heap.size, 1, none⟩ = some (.slice pa m pc) := cell_of_row _ _ 1 _ _ _ HZw1.out
  go_wp2_with fail
  refine (HCK.out w1 HBw1.out).mono ?_
  rintro e w2 ⟨rfl, hB⟩
  have HZw2 := Lib.hid ((hB.block w.heap.size (by have := HLw1.out; omega)).trans HZw1.out)
  have HLw2 := Lib.hid (show w.heap.size + 1 ≤ w2.heap.size by have := hB.size; have := HLw1.out; omega)
  clear z0 z1
  have HBw2 := Lib.hid (HBw1.out.trans (hB.mono HBw1.out.size))
  clear hB HZw1 HLw1 HBw1
  go_wp2_with fail
  refine (HRC.out w2 HBw2.out).mono ?_
  rintro e w3 ⟨rfl, hB⟩
  have HZw3 := Lib.hid ((hB.block w.heap.size (by have := HLw2.out; omega)).trans HZw2.out)
  have HLw3 := Lib.hid (show w.heap.size + 1 ≤ w3.heap.size by have := hB.size; have := HLw2.out; omega)
  have HBw3 := Lib.hid (HBw2.out.trans (hB.mono HBw2.out.size))
  clear hB HZw2 HLw2 HBw2
  go_wp2_with fail
  refine (HAT.out w3 HBw3.out).mono ?_
  rintro e w4 ⟨rfl, hB⟩
  have HZw4 := Lib.hid ((hB.block w.heap.size (by have := HLw3.out; omega)).trans HZw3.out)
  have HLw4 := Lib.hid (show w.heap.size + 1 ≤ w4.heap.size by have := hB.size; have := HLw3.out; omega)
  have HBw4 := Lib.hid (HBw3.out.trans (hB.mono HBw3.out.size))
  clear hB HZw3 HLw3 HBw3
  go_wp2_with fail
  refine (HPR.out w4 HBw4.out).mono ?_
  rintro e w5 ⟨rfl, hB⟩
  have HZw5 := Lib.hid ((hB.block w.heap.size (by have := HLw4.out; omega)).trans HZw4.out)
  have HLw5 := Lib.hid (show w.heap.size + 1 ≤ w5.heap.size by have := hB.size; have := HLw4.out; omega)
  have HBw5 := Lib.hid (HBw4.out.trans (hB.mono HBw4.out.size))
  clear hB HZw4 HLw4 HBw4
  go_wp2_with fail
  refine (HNX.out w5 HBw5.out).mono ?_
  rintro e w6 ⟨rfl, hB⟩
  have HZw6 := Lib.hid ((hB.block w.heap.size (by have := HLw5.out; omega)).trans HZw5.out)
  have HLw6 := Lib.hid (show w.heap.size + 1 ≤ w6.heap.size by have := hB.size; have := HLw5.out; omega)
  have HBw6 := Lib.hid (HBw5.out.trans (hB.mono HBw5.out.size))
  clear hB HZw5 HLw5 HBw5
  have z0 : w6.cell? ⟨w.heap.size, 0, none⟩ = some (.int .i64 f) := cell_of_row _ _ 0 _ _ _ HZw6.out
  have z1 : w6.cell? ⟨w.heap.size, 1, none⟩ = some (.slice pa m pc) := cell_of_row _ _ 1 _ _ _ HZw6.out
  go_wp2_with fail
  refine (HWI.out w6 HBw6.out).mono ?_
  rintro e w7 ⟨⟨xa, xc, rfl, hx, hxc⟩, hB⟩
  have HZw7 := Lib.hid ((hB.block w.heap.size (by have := HLw6.out; omega)).trans HZw6.out)
  have HLw7 := Lib.hid (show w.heap.size + 1 ≤ w7.heap.size by have := hB.size; have := HLw6.out; omega)
  have HX7 := Lib.hid hx
  clear z0 z1 hx
  have HBw7 := Lib.hid (HBw6.out.trans (hB.mono HBw6.out.size))
  clear hB HZw6 HLw6 HBw6
  have z0 : w7.cell? ⟨w.heap.size, 0, none⟩ = some (.int .i64 f) := cell_of_row _ _ 0 _ _ _ HZw7.out
  have z1 : w7.cell? ⟨w.heap.size, 1, none⟩ = some (.slice pa m pc) := cell_of_row _ _ 1 _ _ _ HZw7.out
  go_wp2_with fail
  refine (HRW.out w7 HBw7.out).mono ?_
  rintro e w8 ⟨⟨ya, yc, rfl, hy, hyc⟩, hB⟩
  have HZw8 := Lib.hid ((hB.block w.heap.size (by have := HLw7.out; omega)).trans HZw7.out)
  have HLw8 := Lib.hid (show w.heap.size + 1 ≤ w8.heap.size by have := hB.size; have := HLw7.out; omega)
  have HX8 := Lib.hid (HX7.out.grow hB)
  have HY8 := Lib.hid hy
  clear z0 z1 hy HX7
  have HBw8 := Lib.hid (HBw7.out.trans (hB.mono HBw7.out.size))
  clear hB HZw7 HLw7 HBw7
  go_wp2_with fail
  refine (HSP.out w8 HBw8.out).mono ?_
  rintro e w9 ⟨⟨sa, sc, rfl, hs⟩, hB⟩
  have HZw9 := Lib.hid ((hB.block w.heap.size (by have := HLw8.out; omega)).trans HZw8.out)
  have HLw9 := Lib.hid (show w.heap.size + 1 ≤ w9.heap.size by have := hB.size; have := HLw8.out; omega)
  have HX9 := Lib.hid (HX8.out.grow hB)
  have HY9 := Lib.hid (HY8.out.grow hB)
  have HS9 := Lib.hid hs
  clear hs HX8 HY8
  have HBw9 := Lib.hid (HBw8.out.trans (hB.mono HBw8.out.size))
  clear hB HZw8 HLw8 HBw8
  have hsame := rSame_any xa N xc M HMN.out ya N yc M HMN.out w9 HX9.out HY9.out hxc hyc
  rw [decide_eq_true rfl] at hsame
  have HSM := Lib.hid hsame
  clear hsame
  go_wp2_with fail
  refine HSM.out.mono ?_
  rintro e w10 ⟨rfl, hB⟩
  have HS10 := Lib.hid (HS9.out.below hB (Nat.le_refl _))
  have HBw10 := Lib.hid (HBw9.out.trans (hB.mono HBw9.out.size))
  clear hB HSM HX9 HY9 HS9 HBw9
  go_wp2_with fail
  refine (HRA.out w10 HBw10.out).mono ?_
  rintro e w11 ⟨rfl, hB⟩
  have HS11 := Lib.hid (HS10.out.below hB (Nat.le_refl _))
  have HBw11 := Lib.hid (HBw10.out.trans (hB.mono HBw10.out.size))
  clear hB HRA HS10 HBw10
  obtain ⟨bk, ok, pk, ck, ek, _, _, c1, _, hup⟩ := HA.out.next HBw11.out (Nat.le_refl _) k v HVK.out
  subst ek
  rw [HQ.out] at c1
  obtain ⟨pb, po, ep, _, d1⟩ := hup bn p HP.out
  subst ep
  clear hup
  go_wp2_with fail
  go_loopw [28, 29] (fun kk jj wr => ∃ (j K : Nat), j ≤ n ∧ jj = .int .i64 j ∧ kk = .int .i64 K ∧ (sp l t u j).length = K ∧ Below w.heap.size w wr ∧ OwnP w8.heap.size wr (.slice sa S sc) (spansL l t u)) (fun _ jj _ => (n - intOf jj).toNat)
  case atStart => exact ⟨0, 0, Nat.zero_le _, rfl, rfl, by rw [sp_zero]; rfl, HBw11.out, HS11.out⟩
  case round =>
    obtain ⟨j, K, hj, rfl, rfl, hK, hb, hs⟩ := hrel
    have hKj := sp_len l t u j
    rw [hK] at hKj
    have HK := Lib.hid hK
    have HB := Lib.hid hb
    have HS := Lib.hid hs
    clear hK hb hs HBw11 HS11
    by_cases hlt : j < n
    · have hlti : (j : Int) < n := by omega
      obtain ⟨v, hv⟩ : ∃ v, l[j]? = some v := ⟨_, List.getElem?_eq_getElem (by rw [HN.out]; exact hlt)⟩
      obtain ⟨b9, o9, pa9, pc9, e9, _, c9, _, _, _⟩ := HA.out.next HB.out (Nat.le_refl _) j v hv
      cases e9
      obtain ⟨vf, hvf⟩ : ∃ vf, v.f = vf := ⟨_, rfl⟩
      rw [hvf] at c9
      have HV := Lib.hid hv
      have HVF := Lib.hid hvf
      clear hv hvf
      by_cases h1 : vf ≤ t
      · have HNO := Lib.hid (sp_no (t := t) (u := u) HV.out (by rw [HVF.out]; omega))
        go_wp2
        go_roundw
        case rel => exact ⟨j + 1, K, by omega, by go_num, rfl, by rw [HNO.out]; exact HK.out, HB.out, HS.out⟩
        case measure => first | (simp [intOf]; done) | (simp [intOf]; omega)
      · by_cases h2 : u ≤ vf
        · have HNO := Lib.hid (sp_no (t := t) (u := u) HV.out (by rw [HVF.out]; omega))
          go_wp2
          go_roundw
          case rel => exact ⟨j + 1, K, by omega, by go_num, rfl, by rw [HNO.out]; exact HK.out, HB.out, HS.out⟩
          case measure => first | (simp [intOf]; done) | (simp [intOf]; omega)
        · have hyes : t < v.f ∧ v.f < u := by rw [HVF.out]; omega
          have HYES := Lib.hid (sp_yes HV.out hyes)
          have hget := sp_get HV.out hyes
          rw [HK.out, HSPA.out, HVF.out] at hget
          have hKS : K < S := by rw [← HSN.out]; exact (List.getElem?_eq_some_iff.1 hget).1
          obtain ⟨sb, e8, _, _, d9⟩ := HS.out.prs K _ hget
          rw [Nat.zero_add] at d9
          subst e8
          have hKi : (K : Int) < S := by omega
          have hd1 : decide ((S : Int) ≤ (K : Int)) = false := decide_eq_false (by omega)
          have hd2 : decide (S ≤ K) = false := decide_eq_false (by omega)
          have hne : (vf != vf) = false := by simp
          clear hyes hget
          go_wp2_with fail
          go_quiet (fail)
          go_wp2
          go_roundw
          case rel => exact ⟨j + 1, K + 1, by omega, by go_num, by go_num, by rw [HYES.out, List.length_append, HK.out]; rfl, below_drewN HB.out _, HS.out⟩
          case measure => first | (simp [intOf]; done) | (simp [intOf]; omega)
    · have hje : j = n := by omega
      subst hje
      have hnl : ¬ ((j : Int) < j) := by omega
      have hKS : K = S := by rw [← HK.out, ← HSN.out, ← HSPA.out, HN.out]
      have hq : ((K : Int) == (S : Int)) = true := by simp [hKS]
      clear hKS
      go_wp2
      go_ret
      exact ⟨rfl, HB.out⟩
set_option maxRecDepth 100000 in
set_option maxHeartbeats 8000000 in
theorem hold_d1 (a : Option Addr) (n cap : Nat) (l : List Ve) (hn : l.length = n) (t u band : Int) (f : Int) (pa : Option Addr) (m pc : Nat) (ps : List Int) (hm : ps.length = m) (w : World) (hA : VesAt w.heap.size w a l) (hP : PrAt w.heap.size w pa ps) (hnx : n ≤ cap ∧ cap ≤ maxLen) (hmx : m ≤ pc ∧ pc ≤ maxLen) (hm40 : m ≤ 40) (ht : TabMay l) (k : Nat) (v : Ve) (hk : cnt l t = k + 1) (hv : l[k]? = some v) (h2 : 0 ≤ band ∧ band < (v.ps.length : Int)) (h1 : k + 1 < n) :
    Calls Try.prog 3 #[.slice a n cap, .int .i64 t, .int .i64 u, .int .i64 band, verV f pa m pc] w fun e w' => e = .returned (.bool true) ∧ Below w.heap.size w w' := by
  have HB0 := Lib.hid ((Below.refl _ w).alloc (Nat.le_refl _) (.cells #[.int .i64 f, .slice pa m pc] 25))
  have HZ0 := Lib.hid (heap_alloc_new w (.cells #[.int .i64 f, .slice pa m pc] 25))
  have HL0 : Hid ((w.alloc (.cells #[.int .i64 f, .slice pa m pc] 25)).heap.size = w.heap.size + 1) := Lib.hid (World.size_alloc _ _)
  have HGR := Lib.hid (fun (W : World) (hB : Below w.heap.size w W) => rGreat_any a n cap l hn W (hA.grow hB) hnx)
  have HCK := Lib.hid (fun (W : World) (hB : Below w.heap.size w W) => check_any a n cap l hn W (hA.grow hB) hnx)
  have HRC := Lib.hid (fun (W : World) (hB : Below w.heap.size w W) => rCheck_any a n cap l hn W (hA.grow hB) hnx)
  have HAT := Lib.hid (fun (W : World) (hB : Below w.heap.size w W) => at_any a n cap l hn t W (hA.grow hB) hnx)
  have HPR := Lib.hid (fun (W : World) (hB : Below w.heap.size w W) => price_any a n cap l hn t band W (hA.grow hB) hnx)
  have HNX := Lib.hid (fun (W : World) (hB : Below w.heap.size w W) => next_any a n cap l hn t W (hA.grow hB) hnx)
  have HWI := Lib.hid (fun (W : World) (hB : Below w.heap.size w W) => withO_any a n cap l hn f pa m pc ps hm W (hA.grow hB) (hP.grow hB) hnx hmx)
  have HRW := Lib.hid (fun (W : World) (hB : Below w.heap.size w W) => rWithO_any a n cap l hn f pa m pc ps hm W (hA.grow hB) (hP.grow hB) hnx hmx)
  have HSP := Lib.hid (fun (W : World) (hB : Below w.heap.size w W) => spans_any a n cap l hn t u W (hA.grow hB) hnx)
  obtain ⟨M, hM⟩ : ∃ M, wT l ⟨f, ps⟩ = M := ⟨_, rfl⟩
  obtain ⟨G, hG⟩ : ∃ G, wG l ⟨f, ps⟩ = G := ⟨_, rfl⟩
  unfold WithO at HWI HRW
  rw [hM, hG] at HWI HRW
  obtain ⟨N, hN⟩ : ∃ N, M.length = N := ⟨_, rfl⟩
  rw [hN] at HWI HRW
  have HMN := Lib.hid hN
  have HA := Lib.hid hA
  have HN := Lib.hid hn
  have hm4 : ¬ (40 : Int) < m := by omega
  have HSPA := Lib.hid (sp_all ht t u)
  have hn2 : n ≤ 200 := by rw [← hn]; exact tab_len ht
  rw [tErr_yes ht] at HCK HRC
  have HRA := Lib.hid (fun (W : World) (hB : Below w.heap.size w W) => rAt_any a n cap l hn t W (hA.grow hB) hnx (tab_pair _ l rfl ht))
  obtain ⟨S, hS⟩ : ∃ S, (spansL l t u).length = S := ⟨_, rfl⟩
  have hS2 : S ≤ n := by
    rw [← hS, ← sp_all ht t u, ← hn]
    exact sp_len _ _ _ _
  unfold SpansE at HSP
  rw [hS] at HSP
  have HSN := Lib.hid hS
  have hver : verO l t = some v := by unfold verO; rw [if_pos ⟨ht, by omega⟩, hk, Nat.add_sub_cancel]; exact hv
  rw [show atO l t = some ((k : Nat) : Int) by unfold atO; rw [if_pos ⟨ht, by omega⟩, hk]; congr 1; omega, optV_some] at HAT
  rw [price_ver hver] at HPR
  rw [show ((cnt l t : Nat) : Int) - 1 = k by omega] at HRA
  have hkn : k < n := by rw [← hn]; exact (List.getElem?_eq_some_iff.1 hv).1
  have hki : (k : Int) < n := by omega
  have hk0 : (0 : Int) ≤ k := by omega
  obtain ⟨q, hq⟩ : ∃ q, v.ps.length = q := ⟨_, rfl⟩
  have hq16 : q ≤ 16 := by have := (tab_ver ht (List.mem_of_getElem? hv)).2.1.2; omega
  have HVK := Lib.hid hv
  have HQ := Lib.hid hq
  obtain ⟨bn, rfl⟩ : ∃ bn : Nat, band = (bn : Int) := ⟨band.toNat, by omega⟩
  have hb0 : (0 : Int) ≤ (bn : Int) := by omega
  have hbq : (bn : Int) < q := by omega
  obtain ⟨p, hp⟩ : ∃ p, v.ps[bn]? = some p := ⟨_, List.getElem?_eq_getElem (by omega)⟩
  rw [if_pos hb0, Int.toNat_natCast, hp, optV_some] at HPR
  have HP := Lib.hid hp
  obtain ⟨v1, hv1⟩ : ∃ x, l[k + 1]? = some x := ⟨_, List.getElem?_eq_getElem (by omega)⟩
  have hnn : (k : Int) + 1 < n := by omega
  rw [show nextO l t = some v1.f by unfold nextO; rw [if_pos ht, hk, hv1]; rfl, optV_some] at HNX
  obtain ⟨vf1, hvf1⟩ : ∃ x, v1.f = x := ⟨_, rfl⟩
  rw [hvf1] at HNX
  have HV1 := Lib.hid hv1
  have HVF1 := Lib.hid hvf1
  clear hA hP hn hm hM hG hN hm40 hS ht hk hv hver hq h1 h2 hp hv1 hvf1
  go_enter Try.func3, Try.ntmps3
  go_wp2_with fail
  refine (HGR.out _ HB0.out).mono ?_
  rintro e w1 ⟨hg | hg, hB⟩
  all_goals
    subst hg
    have HZw1 := Lib.hid ((hB.block w.heap.size (by rw [HL0.out]; omega)).trans HZ0.out)
    have HLw1 := Lib.hid (show w.heap.size + 1 ≤ w1.heap.size by have := hB.size; have := HL0.out; omega)
    have HBw1 := Lib.hid (HB0.out.trans (hB.mono HB0.out.size))
    clear hB HZ0 HL0 HB0 HGR
  rotate_left
  · go_wp2
    go_ret
    exact ⟨rfl, HBw1.out⟩
  have z0 : w1.cell? ⟨w.heap.size, 0, none⟩ = some (.int .i64 f) := cell_of_row _ _ 0 _ _ _ HZw1.out
  have z1 : w1.cell? ⟨w.heap.size, 1, none⟩ = some (.slice pa m pc) := cell_of_row _ _ 1 _ _ _ HZw1.out
  go_wp2_with fail
  refine (HCK.out w1 HBw1.out).mono ?_
  rintro e w2 ⟨rfl, hB⟩
  have HZw2 := Lib.hid ((hB.block w.heap.size (by have := HLw1.out; omega)).trans HZw1.out)
  have HLw2 := Lib.hid (show w.heap.size + 1 ≤ w2.heap.size by have := hB.size; have := HLw1.out; omega)
  clear z0 z1
  have HBw2 := Lib.hid (HBw1.out.trans (hB.mono HBw1.out.size))
  clear hB HZw1 HLw1 HBw1
  go_wp2_with fail
  refine (HRC.out w2 HBw2.out).mono ?_
  rintro e w3 ⟨rfl, hB⟩
  have HZw3 := Lib.hid ((hB.block w.heap.size (by have := HLw2.out; omega)).trans HZw2.out)
  have HLw3 := Lib.hid (show w.heap.size + 1 ≤ w3.heap.size by have := hB.size; have := HLw2.out; omega)
  have HBw3 := Lib.hid (HBw2.out.trans (hB.mono HBw2.out.size))
  clear hB HZw2 HLw2 HBw2
  go_wp2_with fail
  refine (HAT.out w3 HBw3.out).mono ?_
  rintro e w4 ⟨rfl, hB⟩
  have HZw4 := Lib.hid ((hB.block w.heap.size (by have := HLw3.out; omega)).trans HZw3.out)
  have HLw4 := Lib.hid (show w.heap.size + 1 ≤ w4.heap.size by have := hB.size; have := HLw3.out; omega)
  have HBw4 := Lib.hid (HBw3.out.trans (hB.mono HBw3.out.size))
  clear hB HZw3 HLw3 HBw3
  go_wp2_with fail
  refine (HPR.out w4 HBw4.out).mono ?_
  rintro e w5 ⟨rfl, hB⟩
  have HZw5 := Lib.hid ((hB.block w.heap.size (by have := HLw4.out; omega)).trans HZw4.out)
  have HLw5 := Lib.hid (show w.heap.size + 1 ≤ w5.heap.size by have := hB.size; have := HLw4.out; omega)
  have HBw5 := Lib.hid (HBw4.out.trans (hB.mono HBw4.out.size))
  clear hB HZw4 HLw4 HBw4
  go_wp2_with fail
  refine (HNX.out w5 HBw5.out).mono ?_
  rintro e w6 ⟨rfl, hB⟩
  have HZw6 := Lib.hid ((hB.block w.heap.size (by have := HLw5.out; omega)).trans HZw5.out)
  have HLw6 := Lib.hid (show w.heap.size + 1 ≤ w6.heap.size by have := hB.size; have := HLw5.out; omega)
  have HBw6 := Lib.hid (HBw5.out.trans (hB.mono HBw5.out.size))
  clear hB HZw5 HLw5 HBw5
  have z0 : w6.cell? ⟨w.heap.size, 0, none⟩ = some (.int .i64 f) := cell_of_row _ _ 0 _ _ _ HZw6.out
  have z1 : w6.cell? ⟨w.heap.size, 1, none⟩ = some (.slice pa m pc) := cell_of_row _ _ 1 _ _ _ HZw6.out
  go_wp2_with fail
  refine (HWI.out w6 HBw6.out).mono ?_
  rintro e w7 ⟨⟨xa, xc, rfl, hx, hxc⟩, hB⟩
  have HZw7 := Lib.hid ((hB.block w.heap.size (by have := HLw6.out; omega)).trans HZw6.out)
  have HLw7 := Lib.hid (show w.heap.size + 1 ≤ w7.heap.size by have := hB.size; have := HLw6.out; omega)
  have HX7 := Lib.hid hx
  clear z0 z1 hx
  have HBw7 := Lib.hid (HBw6.out.trans (hB.mono HBw6.out.size))
  clear hB HZw6 HLw6 HBw6
  have z0 : w7.cell? ⟨w.heap.size, 0, none⟩ = some (.int .i64 f) := cell_of_row _ _ 0 _ _ _ HZw7.out
  have z1 : w7.cell? ⟨w.heap.size, 1, none⟩ = some (.slice pa m pc) := cell_of_row _ _ 1 _ _ _ HZw7.out
  go_wp2_with fail
  refine (HRW.out w7 HBw7.out).mono ?_
  rintro e w8 ⟨⟨ya, yc, rfl, hy, hyc⟩, hB⟩
  have HZw8 := Lib.hid ((hB.block w.heap.size (by have := HLw7.out; omega)).trans HZw7.out)
  have HLw8 := Lib.hid (show w.heap.size + 1 ≤ w8.heap.size by have := hB.size; have := HLw7.out; omega)
  have HX8 := Lib.hid (HX7.out.grow hB)
  have HY8 := Lib.hid hy
  clear z0 z1 hy HX7
  have HBw8 := Lib.hid (HBw7.out.trans (hB.mono HBw7.out.size))
  clear hB HZw7 HLw7 HBw7
  go_wp2_with fail
  refine (HSP.out w8 HBw8.out).mono ?_
  rintro e w9 ⟨⟨sa, sc, rfl, hs⟩, hB⟩
  have HZw9 := Lib.hid ((hB.block w.heap.size (by have := HLw8.out; omega)).trans HZw8.out)
  have HLw9 := Lib.hid (show w.heap.size + 1 ≤ w9.heap.size by have := hB.size; have := HLw8.out; omega)
  have HX9 := Lib.hid (HX8.out.grow hB)
  have HY9 := Lib.hid (HY8.out.grow hB)
  have HS9 := Lib.hid hs
  clear hs HX8 HY8
  have HBw9 := Lib.hid (HBw8.out.trans (hB.mono HBw8.out.size))
  clear hB HZw8 HLw8 HBw8
  have hsame := rSame_any xa N xc M HMN.out ya N yc M HMN.out w9 HX9.out HY9.out hxc hyc
  rw [decide_eq_true rfl] at hsame
  have HSM := Lib.hid hsame
  clear hsame
  go_wp2_with fail
  refine HSM.out.mono ?_
  rintro e w10 ⟨rfl, hB⟩
  have HS10 := Lib.hid (HS9.out.below hB (Nat.le_refl _))
  have HBw10 := Lib.hid (HBw9.out.trans (hB.mono HBw9.out.size))
  clear hB HSM HX9 HY9 HS9 HBw9
  go_wp2_with fail
  refine (HRA.out w10 HBw10.out).mono ?_
  rintro e w11 ⟨rfl, hB⟩
  have HS11 := Lib.hid (HS10.out.below hB (Nat.le_refl _))
  have HBw11 := Lib.hid (HBw10.out.trans (hB.mono HBw10.out.size))
  clear hB HRA HS10 HBw10
  obtain ⟨bk, ok, pk, ck, ek, _, _, c1, _, hup⟩ := HA.out.next HBw11.out (Nat.le_refl _) k v HVK.out
  subst ek
  rw [HQ.out] at c1
  obtain ⟨pb, po, ep, _, d1⟩ := hup bn p HP.out
  subst ep
  clear hup
  obtain ⟨b1, o1, pa1, pc1, e1, _, x1, _, _, _⟩ := HA.out.next HBw11.out (Nat.le_refl _) (k + 1) v1 HV1.out
  cases e1
  rw [HVF1.out] at x1
  go_wp2_with fail
  go_loopw [28, 29] (fun kk jj wr => ∃ (j K : Nat), j ≤ n ∧ jj = .int .i64 j ∧ kk = .int .i64 K ∧ (sp l t u j).length = K ∧ Below w.heap.size w wr ∧ OwnP w8.heap.size wr (.slice sa S sc) (spansL l t u)) (fun _ jj _ => (n - intOf jj).toNat)
  case atStart => exact ⟨0, 0, Nat.zero_le _, rfl, rfl, by rw [sp_zero]; rfl, HBw11.out, HS11.out⟩
  case round =>
    obtain ⟨j, K, hj, rfl, rfl, hK, hb, hs⟩ := hrel
    have hKj := sp_len l t u j
    rw [hK] at hKj
    have HK := Lib.hid hK
    have HB := Lib.hid hb
    have HS := Lib.hid hs
    clear hK hb hs HBw11 HS11
    by_cases hlt : j < n
    · have hlti : (j : Int) < n := by omega
      obtain ⟨v, hv⟩ : ∃ v, l[j]? = some v := ⟨_, List.getElem?_eq_getElem (by rw [HN.out]; exact hlt)⟩
      obtain ⟨b9, o9, pa9, pc9, e9, _, c9, _, _, _⟩ := HA.out.next HB.out (Nat.le_refl _) j v hv
      cases e9
      obtain ⟨vf, hvf⟩ : ∃ vf, v.f = vf := ⟨_, rfl⟩
      rw [hvf] at c9
      have HV := Lib.hid hv
      have HVF := Lib.hid hvf
      clear hv hvf
      by_cases h1 : vf ≤ t
      · have HNO := Lib.hid (sp_no (t := t) (u := u) HV.out (by rw [HVF.out]; omega))
        go_wp2
        go_roundw
        case rel => exact ⟨j + 1, K, by omega, by go_num, rfl, by rw [HNO.out]; exact HK.out, HB.out, HS.out⟩
        case measure => first | (simp [intOf]; done) | (simp [intOf]; omega)
      · by_cases h2 : u ≤ vf
        · have HNO := Lib.hid (sp_no (t := t) (u := u) HV.out (by rw [HVF.out]; omega))
          go_wp2
          go_roundw
          case rel => exact ⟨j + 1, K, by omega, by go_num, rfl, by rw [HNO.out]; exact HK.out, HB.out, HS.out⟩
          case measure => first | (simp [intOf]; done) | (simp [intOf]; omega)
        · have hyes : t < v.f ∧ v.f < u := by rw [HVF.out]; omega
          have HYES := Lib.hid (sp_yes HV.out hyes)
          have hget := sp_get HV.out hyes
          rw [HK.out, HSPA.out, HVF.out] at hget
          have hKS : K < S := by rw [← HSN.out]; exact (List.getElem?_eq_some_iff.1 hget).1
          obtain ⟨sb, e8, _, _, d9⟩ := HS.out.prs K _ hget
          rw [Nat.zero_add] at d9
          subst e8
          have hKi : (K : Int) < S := by omega
          have hd1 : decide ((S : Int) ≤ (K : Int)) = false := decide_eq_false (by omega)
          have hd2 : decide (S ≤ K) = false := decide_eq_false (by omega)
          have hne : (vf != vf) = false := by simp
          clear hyes hget
          go_wp2_with fail
          go_quiet (fail)
          go_wp2
          go_roundw
          case rel => exact ⟨j + 1, K + 1, by omega, by go_num, by go_num, by rw [HYES.out, List.length_append, HK.out]; rfl, below_drewN HB.out _, HS.out⟩
          case measure => first | (simp [intOf]; done) | (simp [intOf]; omega)
    · have hje : j = n := by omega
      subst hje
      have hnl : ¬ ((j : Int) < j) := by omega
      have hKS : K = S := by rw [← HK.out, ← HSN.out, ← HSPA.out, HN.out]
      have hq : ((K : Int) == (S : Int)) = true := by simp [hKS]
      clear hKS
      go_wp2
      go_ret
      exact ⟨rfl, HB.out⟩
end Go.Proofs.Ythlpigffjbhmoaa
