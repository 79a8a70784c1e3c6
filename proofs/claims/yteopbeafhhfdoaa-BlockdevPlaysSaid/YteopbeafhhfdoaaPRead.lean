/- The document's device: Read. -/
import Derived.Test.YteopbeafhhfdoaaPAt
set_option linter.unusedVariables false
set_option linter.unusedSimpArgs false
namespace Go.Proofs.Yteopbeafhhfdoaa
open Go.RowKit Go.Maps
theorem rform {w : World} {q : Rl} {d : Dv} (h : RefAt w q d) : ∃ a c, q.vC = .slice a d.cache.length c := by
  rcases h.cache.2 with ⟨e, e2⟩ | ⟨g, cap, cur, e, _⟩
  · exact ⟨none, 0, by rw [e, ← h.len, e2]⟩
  · exact ⟨_, _, by rw [e, h.len]⟩
/-- A write in the cache of the document's device. -/
theorem rcache_at {w : World} {q : Rl} {d : Dv} (h : RefAt w q d) (k : Nat) (hk : k < d.cache.length) : ∃ g cap v, q.vC = .slice (some ⟨g, 0, none⟩) d.cache.length cap ∧ w.cell? ⟨g, k * 2, none⟩ = some (.int .i64 (d.cache[k]).1) ∧ w.cell? ⟨g, k * 2 + 1, none⟩ = some v ∧ Own8 0 w v (d.cache[k]).2 ∧ Off q.G v := by
  have hk' : k < q.vs.length := by rw [h.len]; exact hk
  obtain ⟨r1, r2⟩ := h.rows k hk' hk
  rcases h.cache.2 with ⟨e, e2⟩ | ⟨g, cap, cur, e, _⟩
  · omega
  · have hc := h.cache
    rw [e] at hc
    have hr := range_of_row (rows := q.vs.map rcells) hc (fun r hr => by obtain ⟨x, _, rfl⟩ := List.mem_map.1 hr; rfl) (by simp) k (by simpa using hk')
    have e0 : (q.vs.map rcells)[k]'(by simpa using hk') = rcells q.vs[k] := by simp
    rw [e0] at hr
    have h0 := hr 0 _ rfl
    have h1 := hr 1 _ rfl
    rw [r1] at h0
    exact ⟨g, cap, q.vs[k].2, by rw [e, h.len], h0, h1, r2⟩
theorem last_step (c : List (Int × List Int)) (n : Int) (k : Nat) (hk : k < c.length) : lastOf (c.take (k + 1)) n = if c[k].1 = n then some c[k].2 else lastOf (c.take k) n := by
  have e : c.take (k + 1) = c.take k ++ [c[k]] := List.take_succ_eq_append_getElem hk
  unfold lastOf
  rw [e, List.reverse_append, List.reverse_singleton, List.singleton_append, List.find?_cons]
  by_cases h : c[k].1 = n
  · simp [h]
  · simp [h]
theorem wrap_nat {k : Nat} (h : k < 9223372036854775808) : wrap64 (k : Int) = (k : Int) := by unfold wrap64; omega
theorem wrap_succ {k : Nat} (h : k < 9223372036854775807) : wrap64 ((k : Int) + 1) = ((k + 1 : Nat) : Int) := by unfold wrap64; omega
theorem meas_succ {K k : Nat} (h : k < K) (w : wrap64 ((k : Int) + 1) = ((k + 1 : Nat) : Int)) : ((K : Int) - intOf (.int .i64 (wrap64 ((k : Int) + 1)))).toNat < ((K : Int) - intOf (.int .i64 (k : Int))).toNat := by
  rw [w]
  clear w
  show ((K : Int) - ((k + 1 : Nat) : Int)).toNat < ((K : Int) - ((k : Nat) : Int)).toNat
  omega
def RReadE (w w' : World) (L : List Int) (e : Ending) : Prop := ∃ v, e = .returned (.tuple #[v, .int .i64 0]) ∧ Own8 0 w' v L ∧ Below w.heap.size w w'
set_option maxRecDepth 100000 in
set_option maxHeartbeats 1000000 in
theorem rread_yes (q : Rl) (d : Dv) (w : World) (h : RefAt w q d) (n : Int) (hn : accE d n = 0) : Calls Try.prog 36 #[ptr q.D, .int .i64 n] w fun e w' => RReadE w w' (d.read n) e := by
  have hdn : d.down = false := by
    unfold accE at hn
    cases hd : d.down
    · rfl
    · rw [hd, if_pos rfl] at hn; cases hn
  have hh : HasN d n := by
    unfold accE at hn
    refine Classical.byContradiction fun q => ?_
    rw [if_neg q] at hn
    split at hn <;> cases hn
  have c4 : w.cell? ⟨q.D, 4, none⟩ = some (.bool false) := by rw [← hdn]; exact h.dev.cell 4
  have HP := rplace_any q d w h n
  rw [decide_eq_true hh] at HP
  have HP := Lib.hid HP
  have HA := Lib.hid (rat_any q d w h n hh)
  have HR := Lib.hid h
  have HL := Lib.hid h.ok.full
  have eR : d.read n = (lastOf (d.cache.take d.cache.length) n).getD (d.at n) := by rw [List.take_length]; rfl
  obtain ⟨a0, c0, hv0⟩ := rform h
  have HV := Lib.hid hv0
  obtain ⟨K, hK⟩ : ∃ K, d.cache.length = K := ⟨_, rfl⟩
  rw [hK] at HL HV eR
  have HK := Lib.hid hK
  rw [eR]
  unfold RReadE
  clear h hdn hh hn hv0 hK eR
  go_enter Try.func36, Try.ntmps36
  go_wp2_with (first | (go_at_call 47; refine HP.out.mono ?_; rintro e w' ⟨rfl, rfl⟩) | (go_at_call 16; refine HA.out.mono ?_; rintro e w1 ⟨v1, rfl, hO1, hB1⟩; have HO1 := Lib.hid hO1; have HB1 := Lib.hid hB1; clear hO1 hB1) | fail)
  go_loopw [7, 8] (fun b i wr => ∃ (k : Nat), i = .int .i64 (k : Int) ∧ k ≤ K ∧ Own8 0 wr b ((lastOf (d.cache.take k) n).getD (d.at n)) ∧ RefAt wr q d ∧ Below w.heap.size w wr) (fun _ i _ => (K - intOf i).toNat)
  case atStart => exact ⟨0, rfl, Nat.zero_le _, HO1.out.le (Nat.zero_le _), HR.out.below HB1.out, HB1.out⟩
  case round =>
    obtain ⟨k, rfl, hk, hO, hR, hB⟩ := hrel
    have hc2 : wr.cell? ⟨q.D, 2, none⟩ = some (.slice a0 K c0) := by rw [← HV.out]; exact hR.dev.cell 2
    clear HO1 HB1 HR c4
    by_cases hlt : k < K
    · have i1 : (k : Int) < (K : Int) := by omega
      have hlt' : k < d.cache.length := by rw [HK.out]; exact hlt
      obtain ⟨g, cap, v, hv, e0, e1, hO2, hOff⟩ := rcache_at hR k hlt'
      rw [HV.out, HK.out] at hv
      cases hv
      have ls := last_step d.cache n k hlt'
      obtain ⟨m0, L0, hx⟩ : ∃ m0 L0, d.cache[k] = (m0, L0) := ⟨_, _, rfl⟩
      rw [hx] at e0 hO2 ls
      simp only at e0 hO2 ls
      have wk : wrap64 ((k : Int) + 1) = ((k + 1 : Nat) : Int) := wrap_succ (by have := HL.out; omega)
      have hk0 : (0 : Int) ≤ (k : Int) := by omega
      have HLT := Lib.hid hlt
      have HREF := Lib.hid hR
      have HB := Lib.hid hB
      by_cases hit : m0 = n
      · rw [if_pos hit] at ls
        have HO := Lib.hid (show Own8 0 wr v ((lastOf (d.cache.take (k + 1)) n).getD (d.at n)) by rw [ls]; exact hO2)
        subst hit
        clear hk hO hR hB hlt hlt' hO2 ls hx
        go_wp2
        go_roundw
        case rel => exact ⟨k + 1, by first | rfl | rw [wk], HLT.out, HO.out, HREF.out, HB.out⟩
        case measure => exact meas_succ HLT.out wk
      · rw [if_neg hit] at ls
        rw [← ls] at hO
        have HO := Lib.hid hO
        clear hk hO hR hB hlt hlt' hO2 ls hx
        go_wp2
        go_roundw
        case rel => exact ⟨k + 1, by first | rfl | rw [wk], HLT.out, HO.out, HREF.out, HB.out⟩
        case measure => exact meas_succ HLT.out wk
    · have hke : k = K := by omega
      subst hke
      have i1 : ¬ ((k : Int) < (k : Int)) := by omega
      have HX := Lib.hid (And.intro hO hB)
      clear hk hO hR hB hlt
      go_wp2
      go_ret2
      exact ⟨_, rfl, HX.out⟩
theorem rread_no (q : Rl) (d : Dv) (w : World) (h : RefAt w q d) (n : Int) (hn : accE d n ≠ 0) : Calls Try.prog 36 #[ptr q.D, .int .i64 n] w fun e w' => e = .returned (.tuple #[nilV, .int .i64 (accE d n)]) ∧ w = w' := by
  have c4 : w.cell? ⟨q.D, 4, none⟩ = some (.bool d.down) := h.dev.cell 4
  have HP := rplace_any q d w h n
  unfold accE at hn ⊢
  cases hd : d.down
  · rw [hd] at c4 hn
    rw [if_neg (by simp)] at hn ⊢
    have hh : ¬ HasN d n := fun q => hn (by rw [if_pos q])
    rw [if_neg hh]
    rw [decide_eq_false hh] at HP
    have HP := Lib.hid HP
    clear h hn hd hh
    go_enter Try.func36, Try.ntmps36
    go_wp2_with (refine HP.out.mono ?_; rintro e w' ⟨rfl, rfl⟩)
    go_ret2
    exact ⟨rfl, rfl⟩
  · rw [hd] at c4
    rw [if_pos rfl]
    clear h hn hd HP
    go_enter Try.func36, Try.ntmps36
    go_wp2
    go_ret2
    exact ⟨rfl, rfl⟩
end Go.Proofs.Yteopbeafhhfdoaa
