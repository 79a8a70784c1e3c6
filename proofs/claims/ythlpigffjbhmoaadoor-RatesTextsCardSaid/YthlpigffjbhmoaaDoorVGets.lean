/- The program's At, Price and Next. -/
import Derived.Test.YthlpigffjbhmoaaDoorVFind
set_option linter.unusedVariables false
set_option linter.unusedSimpArgs false
namespace Go.Proofs.YthlpigffjbhmoaaDoor
open Go.RowKit Go.Shelf
theorem ver_some {l : List Ve} {t : Int} {v : Ve} (h : verO l t = some v) : ∃ k : Nat, atO l t = some (k : Int) ∧ l[k]? = some v ∧ TabMay l ∧ k + 1 = cnt l t := by
  unfold verO at h
  unfold atO
  split at h
  · rename_i q
    refine ⟨cnt l t - 1, ?_, h, q.1, by omega⟩
    rw [if_pos q]
    congr 1
    omega
  · cases h
theorem ver_none {l : List Ve} {t : Int} (h : verO l t = none) : atO l t = none ∧ ¬ (TabMay l ∧ 0 < cnt l t) := by
  unfold verO at h
  unfold atO
  split at h
  · rename_i q
    have := cnt_le l t
    rw [List.getElem?_eq_none_iff] at h
    omega
  · rename_i q
    exact ⟨if_neg q, q⟩
def optV (o : Option Int) : Value := .tuple #[.int .i64 (o.getD 0), .bool o.isSome]
theorem optV_some (n : Int) : optV (some n) = .tuple #[.int .i64 n, .bool true] := rfl
theorem optV_none : optV none = .tuple #[.int .i64 0, .bool false] := rfl
set_option maxRecDepth 100000 in
set_option maxHeartbeats 2000000 in
theorem at_any (a : Option Addr) (n cap : Nat) (l : List Ve) (hn : l.length = n) (t : Int) (w : World) (hA : VesAt w.heap.size w a l) (hnx : n ≤ cap ∧ cap ≤ maxLen) :
    Calls Tryd.prog 22 #[.slice a n cap, .int .i64 t] w fun e w' => e = .returned (optV (atO l t)) ∧ Below w.heap.size w w' := by
  have hck := check_any a n cap l hn w hA hnx
  by_cases ht : TabMay l
  · rw [tErr_yes ht] at hck
    have HCK := Lib.hid hck
    have HAF := Lib.hid (fun W (hB : Below w.heap.size w W) => after_any a n cap l hn t W (hA.grow hB) ht)
    obtain ⟨c, hc⟩ : ∃ c, cnt l t = c := ⟨_, rfl⟩
    have hcl : c ≤ 200 := by have := cnt_le l t; have := tab_len ht; omega
    rw [hc] at HAF
    by_cases h0 : c = 0
    · rw [show atO l t = none from if_neg (by omega), optV_none]
      subst h0
      clear hck hA hn hc ht
      go_enter Tryd.func22, Tryd.ntmps22
      go_wp2_with fail
      refine HCK.out.mono ?_
      rintro e w1 ⟨rfl, hB1⟩
      have HB1 := Lib.hid hB1
      clear hB1
      go_wp2_with fail
      refine (HAF.out w1 HB1.out).mono ?_
      rintro e w2 ⟨rfl, hB2⟩
      have HB2 := Lib.hid (HB1.out.trans (hB2.mono HB1.out.size))
      clear hB2
      go_wp2
      go_ret2
      exact ⟨rfl, HB2.out⟩
    · rw [show atO l t = some ((c : Int) - 1) by unfold atO; rw [if_pos ⟨ht, by omega⟩, hc], optV_some]
      have g0 : ((c : Int) == 0) = false := by simp; omega
      clear hck hA hn hc ht
      go_enter Tryd.func22, Tryd.ntmps22
      go_wp2_with fail
      refine HCK.out.mono ?_
      rintro e w1 ⟨rfl, hB1⟩
      have HB1 := Lib.hid hB1
      clear hB1
      go_wp2_with fail
      refine (HAF.out w1 HB1.out).mono ?_
      rintro e w2 ⟨rfl, hB2⟩
      have HB2 := Lib.hid (HB1.out.trans (hB2.mono HB1.out.size))
      clear hB2
      go_wp2
      go_ret2
      exact ⟨rfl, HB2.out⟩
  · rw [tErr_no ht] at hck
    have HCK := Lib.hid hck
    rw [show atO l t = none from if_neg (fun q => ht q.1), optV_none]
    clear hck hA hn ht
    go_enter Tryd.func22, Tryd.ntmps22
    go_wp2_with fail
    refine HCK.out.mono ?_
    rintro e w1 ⟨rfl, hB1⟩
    have HB1 := Lib.hid hB1
    clear hB1
    go_wp2
    go_ret2
    exact ⟨rfl, HB1.out⟩
set_option maxRecDepth 100000 in
set_option maxHeartbeats 2000000 in
theorem next_any (a : Option Addr) (n cap : Nat) (l : List Ve) (hn : l.length = n) (t : Int) (w : World) (hA : VesAt w.heap.size w a l) (hnx : n ≤ cap ∧ cap ≤ maxLen) :
    Calls Tryd.prog 20 #[.slice a n cap, .int .i64 t] w fun e w' => e = .returned (optV (nextO l t)) ∧ Below w.heap.size w w' := by
  have hck := check_any a n cap l hn w hA hnx
  by_cases ht : TabMay l
  · rw [tErr_yes ht] at hck
    have HCK := Lib.hid hck
    have HAF := Lib.hid (fun W (hB : Below w.heap.size w W) => after_any a n cap l hn t W (hA.grow hB) ht)
    obtain ⟨c, hc⟩ : ∃ c, cnt l t = c := ⟨_, rfl⟩
    have hcl : c ≤ n := by have := cnt_le l t; omega
    have hnl : n ≤ 200 := by have := tab_len ht; omega
    have HA := Lib.hid hA
    rw [hc] at HAF
    by_cases h0 : c = n
    · rw [show nextO l t = none by unfold nextO; rw [if_pos ht, hc, List.getElem?_eq_none (by omega)]; rfl, optV_none]
      have g0 : ((c : Int) == (n : Int)) = true := by simp [h0]
      clear hck hA hn hc ht h0
      go_enter Tryd.func20, Tryd.ntmps20
      go_wp2_with fail
      refine HCK.out.mono ?_
      rintro e w1 ⟨rfl, hB1⟩
      have HB1 := Lib.hid hB1
      clear hB1
      go_wp2_with fail
      refine (HAF.out w1 HB1.out).mono ?_
      rintro e w2 ⟨rfl, hB2⟩
      have HB2 := Lib.hid (HB1.out.trans (hB2.mono HB1.out.size))
      clear hB2
      go_wp2
      go_ret2
      exact ⟨rfl, HB2.out⟩
    · obtain ⟨v, hv⟩ : ∃ v, l[c]? = some v := ⟨_, List.getElem?_eq_getElem (by omega)⟩
      rw [show nextO l t = some v.f by unfold nextO; rw [if_pos ht, hc, hv]; rfl, optV_some]
      have g0 : ((c : Int) == (n : Int)) = false := by simp; omega
      have hci : (c : Int) < n := by omega
      have HV := Lib.hid hv
      clear hck hA hn hc ht h0 hv
      go_enter Tryd.func20, Tryd.ntmps20
      go_wp2_with fail
      refine HCK.out.mono ?_
      rintro e w1 ⟨rfl, hB1⟩
      have HB1 := Lib.hid hB1
      clear hB1
      go_wp2_with fail
      refine (HAF.out w1 HB1.out).mono ?_
      rintro e w2 ⟨rfl, hB2⟩
      have HB2 := Lib.hid (HB1.out.trans (hB2.mono HB1.out.size))
      clear hB2
      obtain ⟨b, o, pa, pc, e, hbl, c0, c1, hle, hup⟩ := HA.out.next HB2.out (Nat.le_refl _) c v HV.out
      subst e
      obtain ⟨f, hf⟩ : ∃ f, v.f = f := ⟨_, rfl⟩
      rw [hf] at c0
      have HFF := Lib.hid hf
      clear c1 hle hup hf
      go_wp2
      go_ret2
      rw [HFF.out]
      exact ⟨rfl, HB2.out⟩
  · rw [tErr_no ht] at hck
    have HCK := Lib.hid hck
    rw [show nextO l t = none from if_neg ht, optV_none]
    clear hck hA hn ht
    go_enter Tryd.func20, Tryd.ntmps20
    go_wp2_with fail
    refine HCK.out.mono ?_
    rintro e w1 ⟨rfl, hB1⟩
    have HB1 := Lib.hid hB1
    clear hB1
    go_wp2
    go_ret2
    exact ⟨rfl, HB1.out⟩
theorem price_ver {l : List Ve} {t band : Int} {v : Ve} (h : verO l t = some v) : priceO l t band = if 0 ≤ band then v.ps[band.toNat]? else none := by
  unfold priceO; rw [h]; rfl
theorem price_none {l : List Ve} {t band : Int} (h : verO l t = none) : priceO l t band = none := by
  unfold priceO; rw [h]; rfl
set_option maxRecDepth 100000 in
set_option maxHeartbeats 2000000 in
theorem price_any (a : Option Addr) (n cap : Nat) (l : List Ve) (hn : l.length = n) (t band : Int) (w : World) (hA : VesAt w.heap.size w a l) (hnx : n ≤ cap ∧ cap ≤ maxLen) :
    Calls Tryd.prog 15 #[.slice a n cap, .int .i64 t, .int .i64 band] w fun e w' => e = .returned (optV (priceO l t band)) ∧ Below w.heap.size w w' := by
  have hat := at_any a n cap l hn t w hA hnx
  cases hv : verO l t with
  | none =>
    rw [price_none hv, optV_none]
    rw [(ver_none hv).1, optV_none] at hat
    have HAT := Lib.hid hat
    clear hat hA hn hv
    go_enter Tryd.func15, Tryd.ntmps15
    go_wp2_with fail
    refine HAT.out.mono ?_
    rintro e w1 ⟨rfl, hB1⟩
    have HB1 := Lib.hid hB1
    clear hB1
    go_wp2
    go_ret2
    exact ⟨rfl, HB1.out⟩
  | some v =>
    rw [price_ver hv]
    obtain ⟨k, hk, hvk, ht, hkc⟩ := ver_some hv
    rw [hk, optV_some] at hat
    have HAT := Lib.hid hat
    have hkn : k < n := by rw [← hn]; exact (List.getElem?_eq_some_iff.1 hvk).1
    have hki : (k : Int) < n := by omega
    have HA := Lib.hid hA
    have HV := Lib.hid hvk
    obtain ⟨m, hm⟩ : ∃ m, v.ps.length = m := ⟨_, rfl⟩
    have HM := Lib.hid hm
    have hm16 : m ≤ 16 := by have := (tab_ver ht (List.mem_of_getElem? hvk)).2.1.2; omega
    clear hat hA hn hv hvk hk ht hkc hm
    by_cases h0 : 0 ≤ band
    · rw [if_pos h0]
      obtain ⟨j, rfl⟩ : ∃ j : Nat, band = (j : Int) := ⟨band.toNat, by omega⟩
      rw [Int.toNat_natCast]
      have gn : ¬ (j : Int) < 0 := by omega
      by_cases hj : j < m
      · obtain ⟨p, hp⟩ : ∃ p, v.ps[j]? = some p := ⟨_, List.getElem?_eq_getElem (by rw [HM.out]; exact hj)⟩
        rw [hp, optV_some]
        have HP := Lib.hid hp
        have gj : ¬ (m : Int) ≤ j := by omega
        have gj2 : (j : Int) < m := by omega
        clear hp h0
        go_enter Tryd.func15, Tryd.ntmps15
        go_wp2_with fail
        refine HAT.out.mono ?_
        rintro e w1 ⟨rfl, hB1⟩
        have HB1 := Lib.hid hB1
        obtain ⟨b, o, pa, pc, e, hbl, c0, c1, hle, hup⟩ := HA.out.next hB1 (Nat.le_refl _) k v HV.out
        subst e
        obtain ⟨pb, po, e, hpb, d0⟩ := hup j p HP.out
        subst e
        rw [HM.out] at c1
        clear hB1 c0 hle hup
        go_wp2
        go_ret2
        exact ⟨rfl, HB1.out⟩
      · rw [List.getElem?_eq_none (by rw [HM.out]; omega), optV_none]
        have gj : (m : Int) ≤ j := by omega
        clear h0
        go_enter Tryd.func15, Tryd.ntmps15
        go_wp2_with fail
        refine HAT.out.mono ?_
        rintro e w1 ⟨rfl, hB1⟩
        have HB1 := Lib.hid hB1
        obtain ⟨b, o, pa, pc, e, hbl, c0, c1, hle, hup⟩ := HA.out.next hB1 (Nat.le_refl _) k v HV.out
        subst e
        rw [HM.out] at c1
        clear hB1 c0 hle hup
        go_wp2
        go_ret2
        exact ⟨rfl, HB1.out⟩
    · rw [if_neg h0, optV_none]
      have gn : band < 0 := by omega
      clear h0
      go_enter Tryd.func15, Tryd.ntmps15
      go_wp2_with fail
      refine HAT.out.mono ?_
      rintro e w1 ⟨rfl, hB1⟩
      have HB1 := Lib.hid hB1
      clear hB1
      go_wp2
      go_ret2
      exact ⟨rfl, HB1.out⟩
end Go.Proofs.YthlpigffjbhmoaaDoor
