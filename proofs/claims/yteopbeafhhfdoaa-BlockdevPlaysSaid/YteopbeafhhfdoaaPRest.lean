/- The document's device: Restart. -/
import Derived.Test.YteopbeafhhfdoaaPPut
import Derived.Test.YteopbeafhhfdoaaDLeft
import Derived.Laws.Shifts
set_option linter.unusedVariables false
set_option linter.unusedSimpArgs false
namespace Go.Proofs.Yteopbeafhhfdoaa
open Go.RowKit Go.Maps
theorem leftN_in {K : List Int} {t x : Int} {k : Nat} {M : Int} (h : ((M = x ∧ (k : Int) = t) ∨ ((k : Int) ≠ t ∧ M = 128 ∧ leftN K t x k = 128) ∨ ((k : Int) ≠ t ∧ M = 0 ∧ leftN K t x k = 0))) (j : Nat) (hj : j < 128) : ((j : Int) < M ↔ j < leftN K t x k) := by
  rcases h with ⟨rfl, e⟩ | ⟨_, rfl, e⟩ | ⟨_, rfl, e⟩
  · unfold leftN; rw [if_pos e]; omega
  · rw [e]; omega
  · rw [e]; omega
theorem bitB (bv : Int) (h0 : 0 ≤ bv) (r : Nat) (hr : r < 8) : ((bv / 2 ^ min r 8).tmod 2 == 1) = decide (bv.toNat / 2 ^ r % 2 = 1) := by
  obtain ⟨v, rfl⟩ := Int.eq_ofNat_of_zero_le h0
  rw [Nat.min_eq_left (by omega)]
  have e : ((v : Int) / 2 ^ r) = ((v / 2 ^ r : Nat) : Int) := by rw [Int.natCast_ediv, Int.natCast_pow]; rfl
  rw [e, Int.tmod_eq_emod_of_nonneg (Int.natCast_nonneg _), Int.toNat_natCast]
  generalize v / 2 ^ r = y
  rw [Bool.eq_iff_iff, decide_eq_true_iff, beq_iff_eq]
  omega
theorem leftN_bit {K : List Int} {t x : Int} {k q8 r8 : Nat} {bv : Int} (hq : k / 8 = q8) (hr : k % 8 = r8) (hb : K.getD q8 0 = bv) (h0 : 0 ≤ bv) (hl : q8 < K.length) (hne : ((k : Int) == t) = false) :
    (((bv / 2 ^ min r8 8).tmod 2 == 1) = true → leftN K t x k = 128) ∧ (((bv / 2 ^ min r8 8).tmod 2 == 1) = false → leftN K t x k = 0) := by
  have hne : ¬ ((k : Int) = t) := by simpa using hne
  have hr8 : r8 < 8 := by omega
  rw [bitB bv h0 r8 hr8]
  unfold leftN
  rw [if_neg hne, hq, hr, hb]
  refine ⟨fun h => ?_, fun h => ?_⟩
  · rw [if_pos ⟨hl, of_decide_eq_true h⟩]
  · rw [if_neg (fun z => of_decide_eq_false h z.2)]
theorem leftN_out {K : List Int} {t x : Int} {k q8 : Nat} (hq : k / 8 = q8) (hl : ¬ q8 < K.length) (hne : ((k : Int) == t) = false) : leftN K t x k = 0 := by
  have hne : ¬ ((k : Int) = t) := by simpa using hne
  unfold leftN
  rw [if_neg hne, hq, if_neg (fun z => hl z.1)]
theorem bys8_upd {O : Nat → Prop} {A B : World} {n0 : Nat} {sv : Value} {xs : List Int} (h : Bys8 n0 A sv xs) (hu : Upd O A B) (hlt : n0 ≤ A.heap.size) (hn : xs ≠ [] → ∀ k, sv.ownBlock = some k → ¬ O k) : Bys8 n0 B sv xs := by
  obtain ⟨hr, h⟩ := h
  rcases h with ⟨e, a, c, hs⟩ | ⟨b, off, cap, e, hb, hc⟩
  · exact ⟨hr, .inl ⟨e, a, c, hs⟩⟩
  · refine ⟨hr, ?_⟩
    by_cases hx : xs = []
    · subst hx; exact .inl ⟨rfl, _, _, e⟩
    · refine .inr ⟨b, off, cap, e, hb, fun j hj => ?_⟩
      have := hu.block b (by omega) (hn hx b (by rw [e]; rfl))
      exact (World.cell?_of_block (a := ⟨b, off + j, none⟩) this).trans (hc j hj)
theorem mix_set (L O : List Int) (hL : L.length = 128) (hO : O.length = 128) (j : Nat) (hj : j < 128) : (vals8 (L.take j ++ O.drop j)).set j (.int .u8 (L.getD j 0)) = vals8 (L.take (j + 1) ++ O.drop (j + 1)) := by
  unfold vals8
  rw [← List.map_set]
  congr 1
  have e1 : L.take (j + 1) = L.take j ++ [L.getD j 0] := by
    rw [List.take_succ_eq_append_getElem (by omega)]; simp [List.getD, show j < L.length by omega]
  have e2 : O.drop j = O[j]'(by omega) :: O.drop (j + 1) := List.drop_eq_getElem_cons (by omega)
  have e3 : (L.take j).length = j := by rw [List.length_take]; omega
  rw [e1, e2, List.set_append_right _ _ (by omega), e3, Nat.sub_self, List.set_cons_zero, List.append_assoc]
  rfl
theorem mix_bd {L O : List Int} (hL : Sec L) (hO : Sec O) (j : Nat) : ∀ x ∈ L.take j ++ O.drop j, 0 ≤ x ∧ x < 256 := fun x hx => by
  rcases List.mem_append.1 hx with e | e
  · exact hL.2 x (List.mem_of_mem_take e)
  · exact hO.2 x (List.mem_of_mem_drop e)
theorem mix_len {L O : List Int} (hL : Sec L) (hO : Sec O) (j : Nat) (hj : j ≤ 128) : (L.take j ++ O.drop j).length = 128 := by
  rw [List.length_append, List.length_take, List.length_drop, hL.1, hO.1]; omega
/-- One byte is written. -/
theorem own_mix {base : Nat} {W : World} {g c : Nat} {L O : List Int} (hL : Sec L) (hO : Sec O) {j : Nat} (hj : j < 128) (h : Own8 base W (.slice (some ⟨g, 0, none⟩) 128 c) (L.take j ++ O.drop j)) :
    (∃ u, W.cell? ⟨g, j, none⟩ = some u) ∧ W.frozen? ⟨g, j, none⟩ = false ∧ Own8 base (W.setCell ⟨g, j, none⟩ (.int .u8 (L.getD j 0))) (.slice (some ⟨g, 0, none⟩) 128 c) (L.take (j + 1) ++ O.drop (j + 1)) := by
  have hl := mix_len hL hO j (by omega)
  have hl2 := mix_len hL hO (j + 1) (by omega)
  have h2 := h.2
  rw [hl] at h2
  have hc := h2.cellAt j (by omega)
  have hs := (h2.stored j (.int .u8 (L.getD j 0))).1
  rw [mix_set L O hL.1 hO.1 j hj] at hs
  refine ⟨⟨_, hc.trans (List.getElem?_eq_getElem (by rw [vals8_len, hl]; exact hj))⟩, h2.frozenAt _, mix_bd hL hO (j + 1), by rw [hl2]; exact hs⟩
set_option maxRecDepth 100000 in
set_option maxHeartbeats 4000000 in
theorem rrestart_any (q : Rl) (d : Dv) (w : World) (h : RefAt w q d) (a : Option Addr) (l c : Nat) (K : List Int) (t x : Int) (hK : Bys8 w.heap.size w (.slice a l c) K) (ha : K ≠ [] → ∀ k, (Value.slice a l c).ownBlock = some k → ¬ rown q k) (hu : q.u < 900000000000) :
    Calls Try.prog 35 #[ptr q.D, crashV a l c t x] w fun e w' => e = .returned (.int .i64 (restartE d)) ∧ ∃ q', RefAt w' q' (d.restart (leftN K t x)) ∧ RStep q q' w w' := by
  have hmx : Try.prog.follows .mixedOrders = true := by kernel_rfl
  have hw0 : Below w.heap.size w (w.alloc (.cells #[.slice a l c, .int .i64 t, .int .i64 x] 34)) := (Below.refl _ _).alloc (Nat.le_refl _) _
  have h0 := h.below hw0
  have c4 : (w.alloc (.cells #[.slice a l c, .int .i64 t, .int .i64 x] 34)).cell? ⟨q.D, 4, none⟩ = some (.bool d.down) := h0.dev.cell 4
  unfold restartE Dv.restart crashV
  cases hd : d.down
  · rw [hd] at c4
    rw [if_neg (by simp), if_neg (by simp)]
    have HR := Lib.hid (show RefAt (w.alloc (.cells #[.slice a l c, .int .i64 t, .int .i64 x] 34)) q d ∧ RStep q q w (w.alloc (.cells #[.slice a l c, .int .i64 t, .int .i64 x] 34)) from ⟨h0, RStep.of _ hw0⟩)
    clear h h0 hd hw0 hK ha
    go_enter Try.func35, Try.ntmps35
    go_wp2
    go_ret
    exact ⟨rfl, q, HR.out⟩
  · rw [hd] at c4
    rw [if_pos rfl, if_pos rfl]
    obtain ⟨N, hN⟩ : ∃ N, d.cache.length = N := ⟨_, rfl⟩
    have HN := Lib.hid hN
    have HNL := Lib.hid (show N ≤ 256 by rw [← hN]; exact h.ok.full)
    obtain ⟨LN, hLN⟩ : ∃ LN, leftN K t x = LN := ⟨_, rfl⟩
    have HLN := Lib.hid hLN
    have HOK := Lib.hid h.ok
    have HD := Lib.hid hd
    have HU0 := Lib.hid hu
    have HKA := Lib.hid ha
    have HK0 := Lib.hid (hK.below hw0)
    have H0 := Lib.hid h0
    have HW0 := Lib.hid hw0
    have HC0 := Lib.hid (At.new 34 w #[.slice a l c, .int .i64 t, .int .i64 x])
    rw [hLN]
    obtain ⟨CB, hCB⟩ : ∃ CB, w.heap.size = CB := ⟨_, rfl⟩
    have HNR := Lib.hid (show ¬ rown q CB from fun e => by have := h.lt _ e; omega)
    rw [hCB] at HC0 HK0
    have HCB := Lib.hid hCB
    clear h h0 hd hw0 hK ha hu hN hLN
    go_enter Try.func35, Try.ntmps35
    go_wp2
    clear hCB
    go_loopw [5] (fun i wr => ∃ k : Nat, i = .int .i64 (k : Int) ∧ k ≤ N ∧ RefAt wr { q with u := q.u + k } (d.part LN k) ∧ Upd (rown q) w wr ∧ At 34 wr CB #[.slice a l c, .int .i64 t, .int .i64 x] ∧ Bys8 CB wr (.slice a l c) K) (fun i _ => (N - intOf i).toNat)
    case atStart => exact ⟨0, rfl, Nat.zero_le _, H0.out, Upd.of HW0.out _, HC0.out, HK0.out⟩
    case round =>
      obtain ⟨k, rfl, hk, hR, hB, hC, hKb⟩ := hrel
      obtain ⟨wo, hwo⟩ : ∃ wo, wo = wr := ⟨_, rfl⟩
      subst hwo
      obtain ⟨a0, c0, hv0⟩ := rform hR
      rw [show (d.part LN k).cache.length = N from HN.out] at hv0
      replace hv0 : q.vC = .slice a0 N c0 := hv0
      have hc2 : wo.cell? ⟨q.D, 2, none⟩ = some (.slice a0 N c0) := by rw [← hv0]; exact hR.dev.cell 2
      have wk : wrap64 ((k : Int) + 1) = ((k + 1 : Nat) : Int) := wrap_succ (by have := HNL.out; omega)
      have hk0 : (0 : Int) ≤ (k : Int) := by omega
      by_cases hlt : k < N
      · have i1 : (k : Int) < (N : Int) := by omega
        obtain ⟨g, cap, v, hv, e0, e1, hO2, hOff⟩ := rcache_at hR k (by show k < d.cache.length; rw [HN.out]; exact hlt)
        replace hv : q.vC = _ := hv
        rw [hv0, show (d.part LN k).cache.length = N from HN.out] at hv
        cases hv
        obtain ⟨n, p1, p2, p3, p4⟩ := part_step HOK.out LN k (by rw [HN.out]; exact hlt)
        have hL0 : Sec (d.cache[k]'(by rw [HN.out]; exact hlt)).2 := (HOK.out.wr _ (List.getElem_mem _)).2.2
        replace e0 : wo.cell? ⟨g, k * 2, none⟩ = some (.int .i64 (d.cache[k]'(by rw [HN.out]; exact hlt)).1) := e0
        replace hO2 : Own8 0 wo v (d.cache[k]'(by rw [HN.out]; exact hlt)).2 := hO2
        rw [p1] at e0
        obtain ⟨L0, hL0e⟩ : ∃ L0, (d.cache[k]'(by rw [HN.out]; exact hlt)).2 = L0 := ⟨_, rfl⟩
        rw [hL0e] at p4 hL0 hO2
        have c1 : wo.cell? ⟨q.D, 1, none⟩ = some (.map (some q.M)) := hR.dev.cell 1
        have hHas : HasN (d.part LN k) n := ⟨by omega, by omega⟩
        have HA := Lib.hid (rat_any _ _ wo hR (n : Int) hHas)
        obtain ⟨va, vc, hva⟩ := hO2.form
        rw [hL0.1] at hva
        rw [hva] at e1 hO2
        obtain ⟨gv, rfl, _, hgv⟩ := hO2.at_ (by decide)
        have HATL := Lib.hid (show ((d.part LN k).at n).length = 128 from (secs_get hR.ok.secs p2).1)
        have HBYT := Lib.hid (show ∀ j, j < 128 → wo.cell? ⟨gv, j, none⟩ = some (.int .u8 (L0.getD j 0)) from fun j hj => by
          rcases hO2.bys.2 with ⟨e, _⟩ | ⟨b, off, cap, e, _, hc⟩
          · have h9 := hL0.1
            rw [e] at h9
            simp at h9
          · rw [hL0.1] at e
            cases e
            have := hc j (by rw [hL0.1]; exact hj)
            rwa [Nat.zero_add] at this)
        have HG := Lib.hid (show g < wo.heap.size from hR.lt _ (.inr (.inr (by show q.vC.ownBlock = _; rw [hv0]; rfl))))
        have HGV := Lib.hid hgv
        have HE1 := Lib.hid e1
        have HV0 := Lib.hid hv0
        have HE0 := Lib.hid e0
        have HSL := Lib.hid hL0
        have HSO := Lib.hid (show Sec ((d.part LN k).at n) from secs_get hR.ok.secs p2)
        have HATE := Lib.hid (show (d.part LN k).at n = (d.part LN k).safe.getD n [] from rfl)
        have HCBL := Lib.hid (show CB < wo.heap.size from hC.lt)
        have k0 : wo.cell? ⟨CB, 0, none⟩ = some (.slice a l c) := hC.cell 0
        have k1 : wo.cell? ⟨CB, 1, none⟩ = some (.int .i64 t) := hC.cell 1
        have k2 : wo.cell? ⟨CB, 2, none⟩ = some (.int .i64 x) := hC.cell 2
        have HR := Lib.hid hR
        have HB := Lib.hid hB
        have HC := Lib.hid hC
        have HKB := Lib.hid hKb
        have HLT := Lib.hid hlt
        have HP := Lib.hid p4
        have HP2 := Lib.hid p2
        obtain ⟨lk, hlk⟩ : ∃ lk, LN k = lk := ⟨_, rfl⟩
        have HLK := Lib.hid hlk
        have HLK8 := Lib.hid (show lk ≤ 128 by rw [← hlk, ← HLN.out]; exact leftN_le K t x k)
        obtain ⟨q8, hq8⟩ : ∃ q8, k / 8 = q8 := ⟨_, rfl⟩
        obtain ⟨r8, hr8⟩ : ∃ r8, k % 8 = r8 := ⟨_, rfl⟩
        have HQ8 := Lib.hid hq8
        have HR8 := Lib.hid hr8
        have e8 : (k : Int).tdiv 8 = (q8 : Int) := by rw [Int.tdiv_eq_ediv_of_nonneg (by omega)]; omega
        have e9 : (k : Int).tmod 8 = (r8 : Int) := by rw [Int.tmod_eq_emod_of_nonneg (by omega)]; omega
        have wq : wrap64 (q8 : Int) = (q8 : Int) := wrap64_nat _ (by have := HNL.out; omega)
        have wr8 : wrap64 (r8 : Int) = (r8 : Int) := wrap64_nat _ (by have := HNL.out; omega)
        have HWK := Lib.hid wk
        obtain rfl : l = K.length := by obtain ⟨_, _, e⟩ := hKb.is; cases e; rfl
        clear hk hR hB hC hv0 hlt hO2 p1 p2 p3 p4 hL0e hHas hva hlk wk hk0 hq8 hr8 hL0 hgv e1
        have hk0 : (0 : Int) ≤ (k : Int) := Int.natCast_nonneg k
        by_cases h1 : q8 < K.length
        · obtain ⟨b, off, rfl, -, hb, hcell⟩ : ∃ b off, a = some ⟨b, off, none⟩ ∧ True ∧ b < CB ∧ ∀ j, j < K.length → wo.cell? ⟨b, off + j, none⟩ = some (.int .u8 (K.getD j 0)) := by
            rcases hKb.2 with ⟨rfl, _⟩ | ⟨b, off, cap, e, hlt, hc⟩
            · simp at h1
            · cases e; exact ⟨b, off, rfl, trivial, hlt, hc⟩
          have hc := hcell q8 h1
          have hbd := hKb.bd q8
          have i8 : (q8 : Int) < K.length := by omega
          have i80 : (0 : Int) ≤ (q8 : Int) := Int.natCast_nonneg q8
          have i70 : (0 : Int) ≤ (r8 : Int) := Int.natCast_nonneg r8
          obtain ⟨bv, hbv⟩ : ∃ bv, K.getD q8 0 = bv := ⟨_, rfl⟩
          rw [hbv] at hc hbd
          have HBV := Lib.hid hbv
          have HBD := Lib.hid hbd
          have HH1 := Lib.hid h1
          clear hbv hcell hKb hbd h1 hb
          go_wp2_with fail
          · have HM := Lib.hid (show ∀ j : Nat, j < 128 → ((j : Int) < x ↔ j < lk) from by rw [← HLK.out, ← HLN.out]; exact fun j hj => leftN_in (.inl ⟨rfl, (eq_of_beq (show ((k : Int) == t) = true by assumption))⟩) j hj)
            refine HA.out.mono ?_
            rintro e w1 ⟨v1, rfl, hO1, hB1⟩
            have HO1 := Lib.hid hO1
            have HB1 := Lib.hid hB1
            clear hO1 hB1
            obtain ⟨a1, cp1, hv1⟩ := HO1.out.form
            rw [HATL.out] at hv1
            obtain ⟨g1, rfl, hg1, hg1'⟩ := (show Own8 wo.heap.size w1 (.slice a1 128 cp1) ((d.part LN k).at n) by rw [← hv1]; exact HO1.out).at_ (by decide)
            subst hv1
            obtain ⟨v28, hv28⟩ : ∃ v28, (128 : Nat) = v28 := ⟨_, rfl⟩
            have HV28 := Lib.hid hv28
            rw [hv28] at HO1 ⊢
            clear hv28
            go_wp2_with fail
            go_loopw [8] (fun i w2 => ∃ j : Nat, i = .int .i64 (j : Int) ∧ j ≤ lk ∧ Own8 wo.heap.size w2 (.slice (some ⟨g1, 0, none⟩) v28 cp1) (L0.take j ++ ((d.part LN k).at n).drop j) ∧ Below wo.heap.size wo w2) (fun i _ => (128 - intOf i).toNat)
            case atStart => exact ⟨0, rfl, Nat.zero_le _, by rw [List.take_zero, List.nil_append, List.drop_zero]; exact HO1.out, HB1.out⟩
            case round =>
              obtain ⟨j, rfl, hj, hO, hB2⟩ := hrel
              clear c1 hc2 HO1 HB1
              have w2c : wr.cell? ⟨q.D, 2, none⟩ = some (.slice (some ⟨g, 0, none⟩) N c0) := by rw [← HV0.out]; exact (HR.out.below hB2).dev.cell 2
              have j0 : (0 : Int) ≤ (j : Int) := Int.natCast_nonneg j
              by_cases hjl : j < lk
              · have h128 : j < 128 := by have := HLK8.out; omega
                have j1 : (j : Int) < 128 := by omega
                have j2 : (j : Int) < x := (HM.out j h128).2 hjl
                have e1' : wr.cell? ⟨g, k * 2 + 1, none⟩ = some (.slice (some ⟨gv, 0, none⟩) 128 vc) := (hB2.cell (p := ⟨g, k * 2 + 1, none⟩) HG.out).trans HE1.out
                have b1 : wr.cell? ⟨gv, j, none⟩ = some (.int .u8 (L0.getD j 0)) := (hB2.cell (p := ⟨gv, j, none⟩) HGV.out).trans (HBYT.out j h128)
                obtain ⟨⟨u, hu1⟩, hu2, hu3⟩ := own_mix HSL.out HSO.out h128 (by rw [HV28.out]; exact hO)
                rw [HV28.out] at hu3 e1'
                obtain ⟨y, hy⟩ : ∃ y, L0.getD j 0 = y := ⟨_, rfl⟩
                rw [hy] at b1 hu3
                have j3 : (j : Int) < v28 := by rw [← HV28.out]; exact j1
                have wj : wrap64 ((j : Int) + 1) = ((j + 1 : Nat) : Int) := wrap_succ (by omega)
                have HREL := Lib.hid (And.intro hu3 (hB2.setCell (p := ⟨g1, j, none⟩) hg1 (.int .u8 y)))
                have HJL := Lib.hid hjl
                have HJ := Lib.hid h128
                have HWJ := Lib.hid wj
                clear hj hO hB2 hjl h128 hu3 hy wj
                go_wp2
                have wj := HWJ.out
                go_roundw
                case rel => exact ⟨j + 1, by first | rfl | rw [wj], HJL.out, HREL.out⟩
                case measure =>
                  have hj9 := HJ.out
                  first
                    | exact meas_succ (K := 128) HJ.out wj
                    | (clear wj; show ((128 : Int) - ((j : Int) + 1)).toNat < ((128 : Int) - (j : Int)).toNat; omega)
              · have hjk : j = lk := by omega
                subst hjk
                have hL8 := HLK8.out
                have hO' := hO
                rw [← HV28.out] at hO'
                have hX := (HR.out.below hB2).drew
                obtain ⟨W', hr, hR', hu'⟩ := ref_store hX (by show q.u + k < _; have := HNL.out; have := HLT.out; have := HU0.out; omega) n HP2.out _ _ (hO'.le (Nat.zero_le _)) (off_fresh HR.out hO') (mix_len HSL.out HSO.out j hL8)
                rw [HV28.out] at hr
                replace hr : (Instr.mapUpdate 39 (.map (some q.M)) (.int .i64 (n : Int)) (.slice (some ⟨g1, 0, none⟩) v28 cp1)).run Try.prog wr.drew = .ok () W' := hr
                have HU := Lib.hid hr
                have uAll : Upd (rown q) wo W' := (Upd.of hB2 _).drew.trans hu' (fun j e => .inl e)
                have HREL := Lib.hid (show RefAt W' { q with u := q.u + (k + 1) } (d.part LN (k + 1)) ∧ Upd (rown q) w W' ∧ At 34 W' CB #[.slice (some ⟨b, off, none⟩) K.length c, .int .i64 t, .int .i64 x] ∧ Bys8 CB W' (.slice (some ⟨b, off, none⟩) K.length c) K from
                  ⟨by rw [HP.out, HLK.out]; exact hR', HB.out.trans uAll (fun j e => .inl e), HC.out.upd uAll HNR.out, bys8_upd HKB.out uAll (Nat.le_of_lt HCBL.out) HKA.out⟩)
                have q1 : (fun Z : World => Z.cell? ⟨q.D, 1, none⟩ = some (.map (some q.M)) ∧ Z.cell? ⟨q.D, 2, none⟩ = some (.slice (some ⟨g, 0, none⟩) N c0) ∧ Z.cell? ⟨g, k * 2, none⟩ = some (.int .i64 (n : Int))) wr.drew := ⟨hX.dev.cell 1, w2c, (hB2.cell (p := ⟨g, k * 2, none⟩) HG.out).trans HE0.out⟩
                have HJM := Lib.hid (fun (h : j < 128) => (show ¬ ((j : Int) < x) from fun q => Nat.lt_irrefl _ ((HM.out j h).1 q)))
                clear hj hO hO' hB2 hjl hr hR' hu' uAll hX w2c hL8
                by_cases j128 : j < 128
                · have j1 : (j : Int) < 128 := by omega
                  have j2 := HJM.out j128
                  clear j128
                  go_wp2_with fail
                  refine regionL (fun Z : World => Z.cell? ⟨q.D, 1, none⟩ = some (.map (some q.M)) ∧ Z.cell? ⟨q.D, 2, none⟩ = some (.slice (some ⟨g, 0, none⟩) N c0) ∧ Z.cell? ⟨g, k * 2, none⟩ = some (.int .i64 (n : Int))) 13 (by kernel_rfl) ?_
                  refine takeL (i := 0) (oi := { dst := some 81, op := Go.Op.move (Go.Operand.tmp 0), type := 28, pos := "ref.go:155", after := #[], guard := none }) (v := .pointer (some ⟨q.D, 0, none⟩)) [13, 3, 2, 1] rfl (by kernel_rfl) (by kernel_rfl) (by kernel_rfl) (by kernel_rfl) (fun _ _ _ h => calm_panic h) rfl ?_ q1 ?_
                  · intro Z hZ; go_simp
                  simp only [Act.put, List.setIfInBounds_toArray, List.set_cons_zero, List.set_cons_succ]
                  refine takeL (i := 1) (oi := { dst := some 82, op := Go.Op.nilCheck (Go.Operand.tmp 81), type := 0, pos := "ref.go:155", after := #[{ on := 0, ground := Go.Ground.data }], guard := none }) (v := .pointer (some ⟨q.D, 0, none⟩)) [13, 3, 2] rfl (by kernel_rfl) (by kernel_rfl) (by kernel_rfl) (by kernel_rfl) (fun _ _ _ h => calm_panic h) rfl ?_ q1 ?_
                  · intro Z hZ; go_simp
                  simp only [Act.put, List.setIfInBounds_toArray, List.set_cons_zero, List.set_cons_succ]
                  refine takeL (i := 2) (oi := { dst := some 83, op := Go.Op.fieldAddr 42 (Go.Operand.tmp 82) 1, type := 0, pos := "ref.go:155", after := #[{ on := 1, ground := Go.Ground.data }], guard := none }) (v := .pointer (some ⟨q.D, 1, none⟩)) [13, 3] rfl (by kernel_rfl) (by kernel_rfl) (by kernel_rfl) (by kernel_rfl) (fun _ _ _ h => calm_panic h) rfl ?_ q1 ?_
                  · intro Z hZ; go_simp
                  simp only [Act.put, List.setIfInBounds_toArray, List.set_cons_zero, List.set_cons_succ]
                  refine takeL (i := 3) (oi := { dst := some 84, op := Go.Op.load 39 (Go.Operand.tmp 83), type := 39, pos := "ref.go:155", after := #[{ on := 2, ground := Go.Ground.data }], guard := none }) (v := .map (some q.M)) [13] rfl (by kernel_rfl) (by kernel_rfl) (by kernel_rfl) (by kernel_rfl) (fun _ _ _ h => calm_panic h) rfl ?_ q1 ?_
                  · intro Z hZ; obtain ⟨z1, z2, z3⟩ := hZ; go_simp
                  simp only [Act.put, List.setIfInBounds_toArray, List.set_cons_zero, List.set_cons_succ]
                  refine takeL (i := 4) (oi := { dst := some 85, op := Go.Op.move (Go.Operand.tmp 0), type := 28, pos := "ref.go:155", after := #[], guard := none }) (v := .pointer (some ⟨q.D, 0, none⟩)) [13, 11, 10, 9, 7, 6, 5] rfl (by kernel_rfl) (by kernel_rfl) (by kernel_rfl) (by kernel_rfl) (fun _ _ _ h => calm_panic h) rfl ?_ q1 ?_
                  · intro Z hZ; go_simp
                  simp only [Act.put, List.setIfInBounds_toArray, List.set_cons_zero, List.set_cons_succ]
                  refine takeL (i := 5) (oi := { dst := some 86, op := Go.Op.nilCheck (Go.Operand.tmp 85), type := 0, pos := "ref.go:155", after := #[{ on := 4, ground := Go.Ground.data }], guard := none }) (v := .pointer (some ⟨q.D, 0, none⟩)) [13, 11, 10, 9, 7, 6] rfl (by kernel_rfl) (by kernel_rfl) (by kernel_rfl) (by kernel_rfl) (fun _ _ _ h => calm_panic h) rfl ?_ q1 ?_
                  · intro Z hZ; go_simp
                  simp only [Act.put, List.setIfInBounds_toArray, List.set_cons_zero, List.set_cons_succ]
                  refine takeL (i := 6) (oi := { dst := some 87, op := Go.Op.fieldAddr 42 (Go.Operand.tmp 86) 2, type := 0, pos := "ref.go:155", after := #[{ on := 5, ground := Go.Ground.data }], guard := none }) (v := .pointer (some ⟨q.D, 2, none⟩)) [13, 11, 10, 9, 7] rfl (by kernel_rfl) (by kernel_rfl) (by kernel_rfl) (by kernel_rfl) (fun _ _ _ h => calm_panic h) rfl ?_ q1 ?_
                  · intro Z hZ; go_simp
                  simp only [Act.put, List.setIfInBounds_toArray, List.set_cons_zero, List.set_cons_succ]
                  refine takeL (i := 7) (oi := { dst := some 88, op := Go.Op.load 40 (Go.Operand.tmp 87), type := 40, pos := "ref.go:155", after := #[{ on := 6, ground := Go.Ground.data }], guard := none }) (v := .slice (some ⟨g, 0, none⟩) N c0) [13, 11, 10, 9] rfl (by kernel_rfl) (by kernel_rfl) (by kernel_rfl) (by kernel_rfl) (fun _ _ _ h => calm_panic h) rfl ?_ q1 ?_
                  · intro Z hZ; obtain ⟨z1, z2, z3⟩ := hZ; go_simp
                  simp only [Act.put, List.setIfInBounds_toArray, List.set_cons_zero, List.set_cons_succ]
                  refine takeL (i := 8) (oi := { dst := some 89, op := Go.Op.move (Go.Operand.tmp 5), type := 3, pos := "ref.go:155", after := #[], guard := none }) (v := .int .i64 (k : Int)) [13, 11, 10, 9] rfl (by kernel_rfl) (by kernel_rfl) (by kernel_rfl) (by kernel_rfl) (fun _ _ _ h => calm_panic h) rfl ?_ q1 ?_
                  · intro Z hZ; go_simp
                  simp only [Act.put, List.setIfInBounds_toArray, List.set_cons_zero, List.set_cons_succ]
                  refine takeL (i := 9) (oi := { dst := some 90, op := Go.Op.indexAddr 40 (Go.Operand.tmp 88) (Go.Operand.tmp 89), type := 0, pos := "ref.go:155", after := #[{ on := 7, ground := Go.Ground.data }, { on := 8, ground := Go.Ground.data }], guard := none }) (v := .pointer (some ⟨g, k * 2, none⟩)) [13, 11, 10] rfl (by kernel_rfl) (by kernel_rfl) (by kernel_rfl) (by kernel_rfl) (fun _ _ _ h => calm_panic h) rfl ?_ q1 ?_
                  · intro Z hZ; go_simp
                  simp only [Act.put, List.setIfInBounds_toArray, List.set_cons_zero, List.set_cons_succ]
                  refine takeL (i := 10) (oi := { dst := some 91, op := Go.Op.fieldAddr 47 (Go.Operand.tmp 90) 0, type := 0, pos := "ref.go:155", after := #[{ on := 9, ground := Go.Ground.data }], guard := none }) (v := .pointer (some ⟨g, k * 2, none⟩)) [13, 11] rfl (by kernel_rfl) (by kernel_rfl) (by kernel_rfl) (by kernel_rfl) (fun _ _ _ h => calm_panic h) rfl ?_ q1 ?_
                  · intro Z hZ; go_simp
                  simp only [Act.put, List.setIfInBounds_toArray, List.set_cons_zero, List.set_cons_succ]
                  refine takeL (i := 11) (oi := { dst := some 92, op := Go.Op.load 3 (Go.Operand.tmp 91), type := 3, pos := "ref.go:155", after := #[{ on := 10, ground := Go.Ground.data }], guard := none }) (v := .int .i64 (n : Int)) [13] rfl (by kernel_rfl) (by kernel_rfl) (by kernel_rfl) (by kernel_rfl) (fun _ _ _ h => calm_panic h) rfl ?_ q1 ?_
                  · intro Z hZ; obtain ⟨z1, z2, z3⟩ := hZ; go_simp
                  simp only [Act.put, List.setIfInBounds_toArray, List.set_cons_zero, List.set_cons_succ]
                  refine takeL (i := 12) (oi := { dst := some 93, op := Go.Op.move (Go.Operand.tmp 7), type := 32, pos := "ref.go:155", after := #[], guard := none }) (v := .slice (some ⟨g1, 0, none⟩) v28 cp1) [13] rfl (by kernel_rfl) (by kernel_rfl) (by kernel_rfl) (by kernel_rfl) (fun _ _ _ h => calm_panic h) rfl ?_ q1 ?_
                  · intro Z hZ; go_simp
                  simp only [Act.put, List.setIfInBounds_toArray, List.set_cons_zero, List.set_cons_succ]
                  refine oneL (i := 13) (o := { dst := none, op := Go.Op.mapUpdate 39 (Go.Operand.tmp 84) (Go.Operand.tmp 92) (Go.Operand.tmp 93), type := 0, pos := "ref.go:155", after := #[{ on := 3, ground := Go.Ground.data }, { on := 11, ground := Go.Ground.data }, { on := 12, ground := Go.Ground.data }, { on := 0, ground := Go.Ground.phase }, { on := 1, ground := Go.Ground.phase }, { on := 2, ground := Go.Ground.phase }, { on := 3, ground := Go.Ground.phase }, { on := 4, ground := Go.Ground.phase }, { on := 5, ground := Go.Ground.phase }, { on := 6, ground := Go.Ground.phase }, { on := 7, ground := Go.Ground.phase }, { on := 8, ground := Go.Ground.phase }, { on := 9, ground := Go.Ground.phase }, { on := 10, ground := Go.Ground.phase }, { on := 11, ground := Go.Ground.phase }, { on := 12, ground := Go.Ground.phase }], guard := none }) rfl (by kernel_rfl) rfl ?_
                  refine wp_by_skip (w' := W') (exec_mapU rfl rfl rfl rfl HU.out) ⟨fun h => absurd rfl h, ?_⟩
                  simp only [Act.put, List.setIfInBounds_toArray, List.set_cons_zero, List.set_cons_succ]
                  refine doneL (by kernel_rfl) (Calm.normal ?_) _
                  have wk := HWK.out
                  go_wp2
                  go_roundw
                  case rel => exact ⟨k + 1, by first | rfl | rw [wk], HLT.out, HREL.out⟩
                  case measure => exact meas_succ HLT.out wk
                · have j1 : ¬ ((j : Int) < 128) := by omega
                  clear j128
                  go_wp2_with fail
                  refine regionL (fun Z : World => Z.cell? ⟨q.D, 1, none⟩ = some (.map (some q.M)) ∧ Z.cell? ⟨q.D, 2, none⟩ = some (.slice (some ⟨g, 0, none⟩) N c0) ∧ Z.cell? ⟨g, k * 2, none⟩ = some (.int .i64 (n : Int))) 13 (by kernel_rfl) ?_
                  refine takeL (i := 0) (oi := { dst := some 81, op := Go.Op.move (Go.Operand.tmp 0), type := 28, pos := "ref.go:155", after := #[], guard := none }) (v := .pointer (some ⟨q.D, 0, none⟩)) [13, 3, 2, 1] rfl (by kernel_rfl) (by kernel_rfl) (by kernel_rfl) (by kernel_rfl) (fun _ _ _ h => calm_panic h) rfl ?_ q1 ?_
                  · intro Z hZ; go_simp
                  simp only [Act.put, List.setIfInBounds_toArray, List.set_cons_zero, List.set_cons_succ]
                  refine takeL (i := 1) (oi := { dst := some 82, op := Go.Op.nilCheck (Go.Operand.tmp 81), type := 0, pos := "ref.go:155", after := #[{ on := 0, ground := Go.Ground.data }], guard := none }) (v := .pointer (some ⟨q.D, 0, none⟩)) [13, 3, 2] rfl (by kernel_rfl) (by kernel_rfl) (by kernel_rfl) (by kernel_rfl) (fun _ _ _ h => calm_panic h) rfl ?_ q1 ?_
                  · intro Z hZ; go_simp
                  simp only [Act.put, List.setIfInBounds_toArray, List.set_cons_zero, List.set_cons_succ]
                  refine takeL (i := 2) (oi := { dst := some 83, op := Go.Op.fieldAddr 42 (Go.Operand.tmp 82) 1, type := 0, pos := "ref.go:155", after := #[{ on := 1, ground := Go.Ground.data }], guard := none }) (v := .pointer (some ⟨q.D, 1, none⟩)) [13, 3] rfl (by kernel_rfl) (by kernel_rfl) (by kernel_rfl) (by kernel_rfl) (fun _ _ _ h => calm_panic h) rfl ?_ q1 ?_
                  · intro Z hZ; go_simp
                  simp only [Act.put, List.setIfInBounds_toArray, List.set_cons_zero, List.set_cons_succ]
                  refine takeL (i := 3) (oi := { dst := some 84, op := Go.Op.load 39 (Go.Operand.tmp 83), type := 39, pos := "ref.go:155", after := #[{ on := 2, ground := Go.Ground.data }], guard := none }) (v := .map (some q.M)) [13] rfl (by kernel_rfl) (by kernel_rfl) (by kernel_rfl) (by kernel_rfl) (fun _ _ _ h => calm_panic h) rfl ?_ q1 ?_
                  · intro Z hZ; obtain ⟨z1, z2, z3⟩ := hZ; go_simp
                  simp only [Act.put, List.setIfInBounds_toArray, List.set_cons_zero, List.set_cons_succ]
                  refine takeL (i := 4) (oi := { dst := some 85, op := Go.Op.move (Go.Operand.tmp 0), type := 28, pos := "ref.go:155", after := #[], guard := none }) (v := .pointer (some ⟨q.D, 0, none⟩)) [13, 11, 10, 9, 7, 6, 5] rfl (by kernel_rfl) (by kernel_rfl) (by kernel_rfl) (by kernel_rfl) (fun _ _ _ h => calm_panic h) rfl ?_ q1 ?_
                  · intro Z hZ; go_simp
                  simp only [Act.put, List.setIfInBounds_toArray, List.set_cons_zero, List.set_cons_succ]
                  refine takeL (i := 5) (oi := { dst := some 86, op := Go.Op.nilCheck (Go.Operand.tmp 85), type := 0, pos := "ref.go:155", after := #[{ on := 4, ground := Go.Ground.data }], guard := none }) (v := .pointer (some ⟨q.D, 0, none⟩)) [13, 11, 10, 9, 7, 6] rfl (by kernel_rfl) (by kernel_rfl) (by kernel_rfl) (by kernel_rfl) (fun _ _ _ h => calm_panic h) rfl ?_ q1 ?_
                  · intro Z hZ; go_simp
                  simp only [Act.put, List.setIfInBounds_toArray, List.set_cons_zero, List.set_cons_succ]
                  refine takeL (i := 6) (oi := { dst := some 87, op := Go.Op.fieldAddr 42 (Go.Operand.tmp 86) 2, type := 0, pos := "ref.go:155", after := #[{ on := 5, ground := Go.Ground.data }], guard := none }) (v := .pointer (some ⟨q.D, 2, none⟩)) [13, 11, 10, 9, 7] rfl (by kernel_rfl) (by kernel_rfl) (by kernel_rfl) (by kernel_rfl) (fun _ _ _ h => calm_panic h) rfl ?_ q1 ?_
                  · intro Z hZ; go_simp
                  simp only [Act.put, List.setIfInBounds_toArray, List.set_cons_zero, List.set_cons_succ]
                  refine takeL (i := 7) (oi := { dst := some 88, op := Go.Op.load 40 (Go.Operand.tmp 87), type := 40, pos := "ref.go:155", after := #[{ on := 6, ground := Go.Ground.data }], guard := none }) (v := .slice (some ⟨g, 0, none⟩) N c0) [13, 11, 10, 9] rfl (by kernel_rfl) (by kernel_rfl) (by kernel_rfl) (by kernel_rfl) (fun _ _ _ h => calm_panic h) rfl ?_ q1 ?_
                  · intro Z hZ; obtain ⟨z1, z2, z3⟩ := hZ; go_simp
                  simp only [Act.put, List.setIfInBounds_toArray, List.set_cons_zero, List.set_cons_succ]
                  refine takeL (i := 8) (oi := { dst := some 89, op := Go.Op.move (Go.Operand.tmp 5), type := 3, pos := "ref.go:155", after := #[], guard := none }) (v := .int .i64 (k : Int)) [13, 11, 10, 9] rfl (by kernel_rfl) (by kernel_rfl) (by kernel_rfl) (by kernel_rfl) (fun _ _ _ h => calm_panic h) rfl ?_ q1 ?_
                  · intro Z hZ; go_simp
                  simp only [Act.put, List.setIfInBounds_toArray, List.set_cons_zero, List.set_cons_succ]
                  refine takeL (i := 9) (oi := { dst := some 90, op := Go.Op.indexAddr 40 (Go.Operand.tmp 88) (Go.Operand.tmp 89), type := 0, pos := "ref.go:155", after := #[{ on := 7, ground := Go.Ground.data }, { on := 8, ground := Go.Ground.data }], guard := none }) (v := .pointer (some ⟨g, k * 2, none⟩)) [13, 11, 10] rfl (by kernel_rfl) (by kernel_rfl) (by kernel_rfl) (by kernel_rfl) (fun _ _ _ h => calm_panic h) rfl ?_ q1 ?_
                  · intro Z hZ; go_simp
                  simp only [Act.put, List.setIfInBounds_toArray, List.set_cons_zero, List.set_cons_succ]
                  refine takeL (i := 10) (oi := { dst := some 91, op := Go.Op.fieldAddr 47 (Go.Operand.tmp 90) 0, type := 0, pos := "ref.go:155", after := #[{ on := 9, ground := Go.Ground.data }], guard := none }) (v := .pointer (some ⟨g, k * 2, none⟩)) [13, 11] rfl (by kernel_rfl) (by kernel_rfl) (by kernel_rfl) (by kernel_rfl) (fun _ _ _ h => calm_panic h) rfl ?_ q1 ?_
                  · intro Z hZ; go_simp
                  simp only [Act.put, List.setIfInBounds_toArray, List.set_cons_zero, List.set_cons_succ]
                  refine takeL (i := 11) (oi := { dst := some 92, op := Go.Op.load 3 (Go.Operand.tmp 91), type := 3, pos := "ref.go:155", after := #[{ on := 10, ground := Go.Ground.data }], guard := none }) (v := .int .i64 (n : Int)) [13] rfl (by kernel_rfl) (by kernel_rfl) (by kernel_rfl) (by kernel_rfl) (fun _ _ _ h => calm_panic h) rfl ?_ q1 ?_
                  · intro Z hZ; obtain ⟨z1, z2, z3⟩ := hZ; go_simp
                  simp only [Act.put, List.setIfInBounds_toArray, List.set_cons_zero, List.set_cons_succ]
                  refine takeL (i := 12) (oi := { dst := some 93, op := Go.Op.move (Go.Operand.tmp 7), type := 32, pos := "ref.go:155", after := #[], guard := none }) (v := .slice (some ⟨g1, 0, none⟩) v28 cp1) [13] rfl (by kernel_rfl) (by kernel_rfl) (by kernel_rfl) (by kernel_rfl) (fun _ _ _ h => calm_panic h) rfl ?_ q1 ?_
                  · intro Z hZ; go_simp
                  simp only [Act.put, List.setIfInBounds_toArray, List.set_cons_zero, List.set_cons_succ]
                  refine oneL (i := 13) (o := { dst := none, op := Go.Op.mapUpdate 39 (Go.Operand.tmp 84) (Go.Operand.tmp 92) (Go.Operand.tmp 93), type := 0, pos := "ref.go:155", after := #[{ on := 3, ground := Go.Ground.data }, { on := 11, ground := Go.Ground.data }, { on := 12, ground := Go.Ground.data }, { on := 0, ground := Go.Ground.phase }, { on := 1, ground := Go.Ground.phase }, { on := 2, ground := Go.Ground.phase }, { on := 3, ground := Go.Ground.phase }, { on := 4, ground := Go.Ground.phase }, { on := 5, ground := Go.Ground.phase }, { on := 6, ground := Go.Ground.phase }, { on := 7, ground := Go.Ground.phase }, { on := 8, ground := Go.Ground.phase }, { on := 9, ground := Go.Ground.phase }, { on := 10, ground := Go.Ground.phase }, { on := 11, ground := Go.Ground.phase }, { on := 12, ground := Go.Ground.phase }], guard := none }) rfl (by kernel_rfl) rfl ?_
                  refine wp_by_skip (w' := W') (exec_mapU rfl rfl rfl rfl HU.out) ⟨fun h => absurd rfl h, ?_⟩
                  simp only [Act.put, List.setIfInBounds_toArray, List.set_cons_zero, List.set_cons_succ]
                  refine doneL (by kernel_rfl) (Calm.normal ?_) _
                  have wk := HWK.out
                  go_wp2
                  go_roundw
                  case rel => exact ⟨k + 1, by first | rfl | rw [wk], HLT.out, HREL.out⟩
                  case measure => exact meas_succ HLT.out wk
          · have HM := Lib.hid (show ∀ j : Nat, j < 128 → ((j : Int) < 128 ↔ j < lk) from by rw [← HLK.out, ← HLN.out]; exact fun j hj => leftN_in (.inr (.inl ⟨(fun z => absurd (show ((k : Int) == t) = false by assumption) (by rw [z]; simp)), rfl, (leftN_bit (x := x) HQ8.out HR8.out HBV.out HBD.out.1 HH1.out (show ((k : Int) == t) = false by assumption)).1 (by assumption)⟩)) j hj)
            refine HA.out.mono ?_
            rintro e w1 ⟨v1, rfl, hO1, hB1⟩
            have HO1 := Lib.hid hO1
            have HB1 := Lib.hid hB1
            clear hO1 hB1
            obtain ⟨a1, cp1, hv1⟩ := HO1.out.form
            rw [HATL.out] at hv1
            obtain ⟨g1, rfl, hg1, hg1'⟩ := (show Own8 wo.heap.size w1 (.slice a1 128 cp1) ((d.part LN k).at n) by rw [← hv1]; exact HO1.out).at_ (by decide)
            subst hv1
            obtain ⟨v28, hv28⟩ : ∃ v28, (128 : Nat) = v28 := ⟨_, rfl⟩
            have HV28 := Lib.hid hv28
            rw [hv28] at HO1 ⊢
            clear hv28
            go_wp2_with fail
            go_loopw [8] (fun i w2 => ∃ j : Nat, i = .int .i64 (j : Int) ∧ j ≤ lk ∧ Own8 wo.heap.size w2 (.slice (some ⟨g1, 0, none⟩) v28 cp1) (L0.take j ++ ((d.part LN k).at n).drop j) ∧ Below wo.heap.size wo w2) (fun i _ => (128 - intOf i).toNat)
            case atStart => exact ⟨0, rfl, Nat.zero_le _, by rw [List.take_zero, List.nil_append, List.drop_zero]; exact HO1.out, HB1.out⟩
            case round =>
              obtain ⟨j, rfl, hj, hO, hB2⟩ := hrel
              clear c1 hc2 HO1 HB1
              have w2c : wr.cell? ⟨q.D, 2, none⟩ = some (.slice (some ⟨g, 0, none⟩) N c0) := by rw [← HV0.out]; exact (HR.out.below hB2).dev.cell 2
              have j0 : (0 : Int) ≤ (j : Int) := Int.natCast_nonneg j
              by_cases hjl : j < lk
              · have h128 : j < 128 := by have := HLK8.out; omega
                have j1 : (j : Int) < 128 := by omega
                have j2 : (j : Int) < 128 := (HM.out j h128).2 hjl
                have e1' : wr.cell? ⟨g, k * 2 + 1, none⟩ = some (.slice (some ⟨gv, 0, none⟩) 128 vc) := (hB2.cell (p := ⟨g, k * 2 + 1, none⟩) HG.out).trans HE1.out
                have b1 : wr.cell? ⟨gv, j, none⟩ = some (.int .u8 (L0.getD j 0)) := (hB2.cell (p := ⟨gv, j, none⟩) HGV.out).trans (HBYT.out j h128)
                obtain ⟨⟨u, hu1⟩, hu2, hu3⟩ := own_mix HSL.out HSO.out h128 (by rw [HV28.out]; exact hO)
                rw [HV28.out] at hu3 e1'
                obtain ⟨y, hy⟩ : ∃ y, L0.getD j 0 = y := ⟨_, rfl⟩
                rw [hy] at b1 hu3
                have j3 : (j : Int) < v28 := by rw [← HV28.out]; exact j1
                have wj : wrap64 ((j : Int) + 1) = ((j + 1 : Nat) : Int) := wrap_succ (by omega)
                have HREL := Lib.hid (And.intro hu3 (hB2.setCell (p := ⟨g1, j, none⟩) hg1 (.int .u8 y)))
                have HJL := Lib.hid hjl
                have HJ := Lib.hid h128
                have HWJ := Lib.hid wj
                clear hj hO hB2 hjl h128 hu3 hy wj
                go_wp2
                have wj := HWJ.out
                go_roundw
                case rel => exact ⟨j + 1, by first | rfl | rw [wj], HJL.out, HREL.out⟩
                case measure =>
                  have hj9 := HJ.out
                  first
                    | exact meas_succ (K := 128) HJ.out wj
                    | (clear wj; show ((128 : Int) - ((j : Int) + 1)).toNat < ((128 : Int) - (j : Int)).toNat; omega)
              · have hjk : j = lk := by omega
                subst hjk
                have hL8 := HLK8.out
                have hO' := hO
                rw [← HV28.out] at hO'
                have hX := (HR.out.below hB2).drew
                obtain ⟨W', hr, hR', hu'⟩ := ref_store hX (by show q.u + k < _; have := HNL.out; have := HLT.out; have := HU0.out; omega) n HP2.out _ _ (hO'.le (Nat.zero_le _)) (off_fresh HR.out hO') (mix_len HSL.out HSO.out j hL8)
                rw [HV28.out] at hr
                replace hr : (Instr.mapUpdate 39 (.map (some q.M)) (.int .i64 (n : Int)) (.slice (some ⟨g1, 0, none⟩) v28 cp1)).run Try.prog wr.drew = .ok () W' := hr
                have HU := Lib.hid hr
                have uAll : Upd (rown q) wo W' := (Upd.of hB2 _).drew.trans hu' (fun j e => .inl e)
                have HREL := Lib.hid (show RefAt W' { q with u := q.u + (k + 1) } (d.part LN (k + 1)) ∧ Upd (rown q) w W' ∧ At 34 W' CB #[.slice (some ⟨b, off, none⟩) K.length c, .int .i64 t, .int .i64 x] ∧ Bys8 CB W' (.slice (some ⟨b, off, none⟩) K.length c) K from
                  ⟨by rw [HP.out, HLK.out]; exact hR', HB.out.trans uAll (fun j e => .inl e), HC.out.upd uAll HNR.out, bys8_upd HKB.out uAll (Nat.le_of_lt HCBL.out) HKA.out⟩)
                have q1 : (fun Z : World => Z.cell? ⟨q.D, 1, none⟩ = some (.map (some q.M)) ∧ Z.cell? ⟨q.D, 2, none⟩ = some (.slice (some ⟨g, 0, none⟩) N c0) ∧ Z.cell? ⟨g, k * 2, none⟩ = some (.int .i64 (n : Int))) wr.drew := ⟨hX.dev.cell 1, w2c, (hB2.cell (p := ⟨g, k * 2, none⟩) HG.out).trans HE0.out⟩
                have HJM := Lib.hid (fun (h : j < 128) => (show ¬ ((j : Int) < 128) from fun q => Nat.lt_irrefl _ ((HM.out j h).1 q)))
                clear hj hO hO' hB2 hjl hr hR' hu' uAll hX w2c hL8
                by_cases j128 : j < 128
                · exact absurd ((HM.out j j128).1 (by omega)) (Nat.lt_irrefl _)
                · have j1 : ¬ ((j : Int) < 128) := by omega
                  clear j128
                  go_wp2_with fail
                  refine regionL (fun Z : World => Z.cell? ⟨q.D, 1, none⟩ = some (.map (some q.M)) ∧ Z.cell? ⟨q.D, 2, none⟩ = some (.slice (some ⟨g, 0, none⟩) N c0) ∧ Z.cell? ⟨g, k * 2, none⟩ = some (.int .i64 (n : Int))) 13 (by kernel_rfl) ?_
                  refine takeL (i := 0) (oi := { dst := some 81, op := Go.Op.move (Go.Operand.tmp 0), type := 28, pos := "ref.go:155", after := #[], guard := none }) (v := .pointer (some ⟨q.D, 0, none⟩)) [13, 3, 2, 1] rfl (by kernel_rfl) (by kernel_rfl) (by kernel_rfl) (by kernel_rfl) (fun _ _ _ h => calm_panic h) rfl ?_ q1 ?_
                  · intro Z hZ; go_simp
                  simp only [Act.put, List.setIfInBounds_toArray, List.set_cons_zero, List.set_cons_succ]
                  refine takeL (i := 1) (oi := { dst := some 82, op := Go.Op.nilCheck (Go.Operand.tmp 81), type := 0, pos := "ref.go:155", after := #[{ on := 0, ground := Go.Ground.data }], guard := none }) (v := .pointer (some ⟨q.D, 0, none⟩)) [13, 3, 2] rfl (by kernel_rfl) (by kernel_rfl) (by kernel_rfl) (by kernel_rfl) (fun _ _ _ h => calm_panic h) rfl ?_ q1 ?_
                  · intro Z hZ; go_simp
                  simp only [Act.put, List.setIfInBounds_toArray, List.set_cons_zero, List.set_cons_succ]
                  refine takeL (i := 2) (oi := { dst := some 83, op := Go.Op.fieldAddr 42 (Go.Operand.tmp 82) 1, type := 0, pos := "ref.go:155", after := #[{ on := 1, ground := Go.Ground.data }], guard := none }) (v := .pointer (some ⟨q.D, 1, none⟩)) [13, 3] rfl (by kernel_rfl) (by kernel_rfl) (by kernel_rfl) (by kernel_rfl) (fun _ _ _ h => calm_panic h) rfl ?_ q1 ?_
                  · intro Z hZ; go_simp
                  simp only [Act.put, List.setIfInBounds_toArray, List.set_cons_zero, List.set_cons_succ]
                  refine takeL (i := 3) (oi := { dst := some 84, op := Go.Op.load 39 (Go.Operand.tmp 83), type := 39, pos := "ref.go:155", after := #[{ on := 2, ground := Go.Ground.data }], guard := none }) (v := .map (some q.M)) [13] rfl (by kernel_rfl) (by kernel_rfl) (by kernel_rfl) (by kernel_rfl) (fun _ _ _ h => calm_panic h) rfl ?_ q1 ?_
                  · intro Z hZ; obtain ⟨z1, z2, z3⟩ := hZ; go_simp
                  simp only [Act.put, List.setIfInBounds_toArray, List.set_cons_zero, List.set_cons_succ]
                  refine takeL (i := 4) (oi := { dst := some 85, op := Go.Op.move (Go.Operand.tmp 0), type := 28, pos := "ref.go:155", after := #[], guard := none }) (v := .pointer (some ⟨q.D, 0, none⟩)) [13, 11, 10, 9, 7, 6, 5] rfl (by kernel_rfl) (by kernel_rfl) (by kernel_rfl) (by kernel_rfl) (fun _ _ _ h => calm_panic h) rfl ?_ q1 ?_
                  · intro Z hZ; go_simp
                  simp only [Act.put, List.setIfInBounds_toArray, List.set_cons_zero, List.set_cons_succ]
                  refine takeL (i := 5) (oi := { dst := some 86, op := Go.Op.nilCheck (Go.Operand.tmp 85), type := 0, pos := "ref.go:155", after := #[{ on := 4, ground := Go.Ground.data }], guard := none }) (v := .pointer (some ⟨q.D, 0, none⟩)) [13, 11, 10, 9, 7, 6] rfl (by kernel_rfl) (by kernel_rfl) (by kernel_rfl) (by kernel_rfl) (fun _ _ _ h => calm_panic h) rfl ?_ q1 ?_
                  · intro Z hZ; go_simp
                  simp only [Act.put, List.setIfInBounds_toArray, List.set_cons_zero, List.set_cons_succ]
                  refine takeL (i := 6) (oi := { dst := some 87, op := Go.Op.fieldAddr 42 (Go.Operand.tmp 86) 2, type := 0, pos := "ref.go:155", after := #[{ on := 5, ground := Go.Ground.data }], guard := none }) (v := .pointer (some ⟨q.D, 2, none⟩)) [13, 11, 10, 9, 7] rfl (by kernel_rfl) (by kernel_rfl) (by kernel_rfl) (by kernel_rfl) (fun _ _ _ h => calm_panic h) rfl ?_ q1 ?_
                  · intro Z hZ; go_simp
                  simp only [Act.put, List.setIfInBounds_toArray, List.set_cons_zero, List.set_cons_succ]
                  refine takeL (i := 7) (oi := { dst := some 88, op := Go.Op.load 40 (Go.Operand.tmp 87), type := 40, pos := "ref.go:155", after := #[{ on := 6, ground := Go.Ground.data }], guard := none }) (v := .slice (some ⟨g, 0, none⟩) N c0) [13, 11, 10, 9] rfl (by kernel_rfl) (by kernel_rfl) (by kernel_rfl) (by kernel_rfl) (fun _ _ _ h => calm_panic h) rfl ?_ q1 ?_
                  · intro Z hZ; obtain ⟨z1, z2, z3⟩ := hZ; go_simp
                  simp only [Act.put, List.setIfInBounds_toArray, List.set_cons_zero, List.set_cons_succ]
                  refine takeL (i := 8) (oi := { dst := some 89, op := Go.Op.move (Go.Operand.tmp 5), type := 3, pos := "ref.go:155", after := #[], guard := none }) (v := .int .i64 (k : Int)) [13, 11, 10, 9] rfl (by kernel_rfl) (by kernel_rfl) (by kernel_rfl) (by kernel_rfl) (fun _ _ _ h => calm_panic h) rfl ?_ q1 ?_
                  · intro Z hZ; go_simp
                  simp only [Act.put, List.setIfInBounds_toArray, List.set_cons_zero, List.set_cons_succ]
                  refine takeL (i := 9) (oi := { dst := some 90, op := Go.Op.indexAddr 40 (Go.Operand.tmp 88) (Go.Operand.tmp 89), type := 0, pos := "ref.go:155", after := #[{ on := 7, ground := Go.Ground.data }, { on := 8, ground := Go.Ground.data }], guard := none }) (v := .pointer (some ⟨g, k * 2, none⟩)) [13, 11, 10] rfl (by kernel_rfl) (by kernel_rfl) (by kernel_rfl) (by kernel_rfl) (fun _ _ _ h => calm_panic h) rfl ?_ q1 ?_
                  · intro Z hZ; go_simp
                  simp only [Act.put, List.setIfInBounds_toArray, List.set_cons_zero, List.set_cons_succ]
                  refine takeL (i := 10) (oi := { dst := some 91, op := Go.Op.fieldAddr 47 (Go.Operand.tmp 90) 0, type := 0, pos := "ref.go:155", after := #[{ on := 9, ground := Go.Ground.data }], guard := none }) (v := .pointer (some ⟨g, k * 2, none⟩)) [13, 11] rfl (by kernel_rfl) (by kernel_rfl) (by kernel_rfl) (by kernel_rfl) (fun _ _ _ h => calm_panic h) rfl ?_ q1 ?_
                  · intro Z hZ; go_simp
                  simp only [Act.put, List.setIfInBounds_toArray, List.set_cons_zero, List.set_cons_succ]
                  refine takeL (i := 11) (oi := { dst := some 92, op := Go.Op.load 3 (Go.Operand.tmp 91), type := 3, pos := "ref.go:155", after := #[{ on := 10, ground := Go.Ground.data }], guard := none }) (v := .int .i64 (n : Int)) [13] rfl (by kernel_rfl) (by kernel_rfl) (by kernel_rfl) (by kernel_rfl) (fun _ _ _ h => calm_panic h) rfl ?_ q1 ?_
                  · intro Z hZ; obtain ⟨z1, z2, z3⟩ := hZ; go_simp
                  simp only [Act.put, List.setIfInBounds_toArray, List.set_cons_zero, List.set_cons_succ]
                  refine takeL (i := 12) (oi := { dst := some 93, op := Go.Op.move (Go.Operand.tmp 7), type := 32, pos := "ref.go:155", after := #[], guard := none }) (v := .slice (some ⟨g1, 0, none⟩) v28 cp1) [13] rfl (by kernel_rfl) (by kernel_rfl) (by kernel_rfl) (by kernel_rfl) (fun _ _ _ h => calm_panic h) rfl ?_ q1 ?_
                  · intro Z hZ; go_simp
                  simp only [Act.put, List.setIfInBounds_toArray, List.set_cons_zero, List.set_cons_succ]
                  refine oneL (i := 13) (o := { dst := none, op := Go.Op.mapUpdate 39 (Go.Operand.tmp 84) (Go.Operand.tmp 92) (Go.Operand.tmp 93), type := 0, pos := "ref.go:155", after := #[{ on := 3, ground := Go.Ground.data }, { on := 11, ground := Go.Ground.data }, { on := 12, ground := Go.Ground.data }, { on := 0, ground := Go.Ground.phase }, { on := 1, ground := Go.Ground.phase }, { on := 2, ground := Go.Ground.phase }, { on := 3, ground := Go.Ground.phase }, { on := 4, ground := Go.Ground.phase }, { on := 5, ground := Go.Ground.phase }, { on := 6, ground := Go.Ground.phase }, { on := 7, ground := Go.Ground.phase }, { on := 8, ground := Go.Ground.phase }, { on := 9, ground := Go.Ground.phase }, { on := 10, ground := Go.Ground.phase }, { on := 11, ground := Go.Ground.phase }, { on := 12, ground := Go.Ground.phase }], guard := none }) rfl (by kernel_rfl) rfl ?_
                  refine wp_by_skip (w' := W') (exec_mapU rfl rfl rfl rfl HU.out) ⟨fun h => absurd rfl h, ?_⟩
                  simp only [Act.put, List.setIfInBounds_toArray, List.set_cons_zero, List.set_cons_succ]
                  refine doneL (by kernel_rfl) (Calm.normal ?_) _
                  have wk := HWK.out
                  go_wp2
                  go_roundw
                  case rel => exact ⟨k + 1, by first | rfl | rw [wk], HLT.out, HREL.out⟩
                  case measure => exact meas_succ HLT.out wk
          · have HM := Lib.hid (show ∀ j : Nat, j < 128 → ((j : Int) < x ↔ j < lk) from by rw [← HLK.out, ← HLN.out]; exact fun j hj => leftN_in (.inl ⟨rfl, (eq_of_beq (show ((k : Int) == t) = true by assumption))⟩) j hj)
            refine HA.out.mono ?_
            rintro e w1 ⟨v1, rfl, hO1, hB1⟩
            have HO1 := Lib.hid hO1
            have HB1 := Lib.hid hB1
            clear hO1 hB1
            obtain ⟨a1, cp1, hv1⟩ := HO1.out.form
            rw [HATL.out] at hv1
            obtain ⟨g1, rfl, hg1, hg1'⟩ := (show Own8 wo.heap.size w1 (.slice a1 128 cp1) ((d.part LN k).at n) by rw [← hv1]; exact HO1.out).at_ (by decide)
            subst hv1
            obtain ⟨v28, hv28⟩ : ∃ v28, (128 : Nat) = v28 := ⟨_, rfl⟩
            have HV28 := Lib.hid hv28
            rw [hv28] at HO1 ⊢
            clear hv28
            go_wp2_with fail
            go_loopw [8] (fun i w2 => ∃ j : Nat, i = .int .i64 (j : Int) ∧ j ≤ lk ∧ Own8 wo.heap.size w2 (.slice (some ⟨g1, 0, none⟩) v28 cp1) (L0.take j ++ ((d.part LN k).at n).drop j) ∧ Below wo.heap.size wo w2) (fun i _ => (128 - intOf i).toNat)
            case atStart => exact ⟨0, rfl, Nat.zero_le _, by rw [List.take_zero, List.nil_append, List.drop_zero]; exact HO1.out, HB1.out⟩
            case round =>
              obtain ⟨j, rfl, hj, hO, hB2⟩ := hrel
              clear c1 hc2 HO1 HB1
              have w2c : wr.cell? ⟨q.D, 2, none⟩ = some (.slice (some ⟨g, 0, none⟩) N c0) := by rw [← HV0.out]; exact (HR.out.below hB2).dev.cell 2
              have j0 : (0 : Int) ≤ (j : Int) := Int.natCast_nonneg j
              by_cases hjl : j < lk
              · have h128 : j < 128 := by have := HLK8.out; omega
                have j1 : (j : Int) < 128 := by omega
                have j2 : (j : Int) < x := (HM.out j h128).2 hjl
                have e1' : wr.cell? ⟨g, k * 2 + 1, none⟩ = some (.slice (some ⟨gv, 0, none⟩) 128 vc) := (hB2.cell (p := ⟨g, k * 2 + 1, none⟩) HG.out).trans HE1.out
                have b1 : wr.cell? ⟨gv, j, none⟩ = some (.int .u8 (L0.getD j 0)) := (hB2.cell (p := ⟨gv, j, none⟩) HGV.out).trans (HBYT.out j h128)
                obtain ⟨⟨u, hu1⟩, hu2, hu3⟩ := own_mix HSL.out HSO.out h128 (by rw [HV28.out]; exact hO)
                rw [HV28.out] at hu3 e1'
                obtain ⟨y, hy⟩ : ∃ y, L0.getD j 0 = y := ⟨_, rfl⟩
                rw [hy] at b1 hu3
                have j3 : (j : Int) < v28 := by rw [← HV28.out]; exact j1
                have wj : wrap64 ((j : Int) + 1) = ((j + 1 : Nat) : Int) := wrap_succ (by omega)
                have HREL := Lib.hid (And.intro hu3 (hB2.setCell (p := ⟨g1, j, none⟩) hg1 (.int .u8 y)))
                have HJL := Lib.hid hjl
                have HJ := Lib.hid h128
                have HWJ := Lib.hid wj
                clear hj hO hB2 hjl h128 hu3 hy wj
                go_wp2
                have wj := HWJ.out
                go_roundw
                case rel => exact ⟨j + 1, by first | rfl | rw [wj], HJL.out, HREL.out⟩
                case measure =>
                  have hj9 := HJ.out
                  first
                    | exact meas_succ (K := 128) HJ.out wj
                    | (clear wj; show ((128 : Int) - ((j : Int) + 1)).toNat < ((128 : Int) - (j : Int)).toNat; omega)
              · have hjk : j = lk := by omega
                subst hjk
                have hL8 := HLK8.out
                have hO' := hO
                rw [← HV28.out] at hO'
                have hX := (HR.out.below hB2).drew
                obtain ⟨W', hr, hR', hu'⟩ := ref_store hX (by show q.u + k < _; have := HNL.out; have := HLT.out; have := HU0.out; omega) n HP2.out _ _ (hO'.le (Nat.zero_le _)) (off_fresh HR.out hO') (mix_len HSL.out HSO.out j hL8)
                rw [HV28.out] at hr
                replace hr : (Instr.mapUpdate 39 (.map (some q.M)) (.int .i64 (n : Int)) (.slice (some ⟨g1, 0, none⟩) v28 cp1)).run Try.prog wr.drew = .ok () W' := hr
                have HU := Lib.hid hr
                have uAll : Upd (rown q) wo W' := (Upd.of hB2 _).drew.trans hu' (fun j e => .inl e)
                have HREL := Lib.hid (show RefAt W' { q with u := q.u + (k + 1) } (d.part LN (k + 1)) ∧ Upd (rown q) w W' ∧ At 34 W' CB #[.slice (some ⟨b, off, none⟩) K.length c, .int .i64 t, .int .i64 x] ∧ Bys8 CB W' (.slice (some ⟨b, off, none⟩) K.length c) K from
                  ⟨by rw [HP.out, HLK.out]; exact hR', HB.out.trans uAll (fun j e => .inl e), HC.out.upd uAll HNR.out, bys8_upd HKB.out uAll (Nat.le_of_lt HCBL.out) HKA.out⟩)
                have q1 : (fun Z : World => Z.cell? ⟨q.D, 1, none⟩ = some (.map (some q.M)) ∧ Z.cell? ⟨q.D, 2, none⟩ = some (.slice (some ⟨g, 0, none⟩) N c0) ∧ Z.cell? ⟨g, k * 2, none⟩ = some (.int .i64 (n : Int))) wr.drew := ⟨hX.dev.cell 1, w2c, (hB2.cell (p := ⟨g, k * 2, none⟩) HG.out).trans HE0.out⟩
                have HJM := Lib.hid (fun (h : j < 128) => (show ¬ ((j : Int) < x) from fun q => Nat.lt_irrefl _ ((HM.out j h).1 q)))
                clear hj hO hO' hB2 hjl hr hR' hu' uAll hX w2c hL8
                by_cases j128 : j < 128
                · have j1 : (j : Int) < 128 := by omega
                  have j2 := HJM.out j128
                  clear j128
                  go_wp2_with fail
                  refine regionL (fun Z : World => Z.cell? ⟨q.D, 1, none⟩ = some (.map (some q.M)) ∧ Z.cell? ⟨q.D, 2, none⟩ = some (.slice (some ⟨g, 0, none⟩) N c0) ∧ Z.cell? ⟨g, k * 2, none⟩ = some (.int .i64 (n : Int))) 13 (by kernel_rfl) ?_
                  refine takeL (i := 0) (oi := { dst := some 81, op := Go.Op.move (Go.Operand.tmp 0), type := 28, pos := "ref.go:155", after := #[], guard := none }) (v := .pointer (some ⟨q.D, 0, none⟩)) [13, 3, 2, 1] rfl (by kernel_rfl) (by kernel_rfl) (by kernel_rfl) (by kernel_rfl) (fun _ _ _ h => calm_panic h) rfl ?_ q1 ?_
                  · intro Z hZ; go_simp
                  simp only [Act.put, List.setIfInBounds_toArray, List.set_cons_zero, List.set_cons_succ]
                  refine takeL (i := 1) (oi := { dst := some 82, op := Go.Op.nilCheck (Go.Operand.tmp 81), type := 0, pos := "ref.go:155", after := #[{ on := 0, ground := Go.Ground.data }], guard := none }) (v := .pointer (some ⟨q.D, 0, none⟩)) [13, 3, 2] rfl (by kernel_rfl) (by kernel_rfl) (by kernel_rfl) (by kernel_rfl) (fun _ _ _ h => calm_panic h) rfl ?_ q1 ?_
                  · intro Z hZ; go_simp
                  simp only [Act.put, List.setIfInBounds_toArray, List.set_cons_zero, List.set_cons_succ]
                  refine takeL (i := 2) (oi := { dst := some 83, op := Go.Op.fieldAddr 42 (Go.Operand.tmp 82) 1, type := 0, pos := "ref.go:155", after := #[{ on := 1, ground := Go.Ground.data }], guard := none }) (v := .pointer (some ⟨q.D, 1, none⟩)) [13, 3] rfl (by kernel_rfl) (by kernel_rfl) (by kernel_rfl) (by kernel_rfl) (fun _ _ _ h => calm_panic h) rfl ?_ q1 ?_
                  · intro Z hZ; go_simp
                  simp only [Act.put, List.setIfInBounds_toArray, List.set_cons_zero, List.set_cons_succ]
                  refine takeL (i := 3) (oi := { dst := some 84, op := Go.Op.load 39 (Go.Operand.tmp 83), type := 39, pos := "ref.go:155", after := #[{ on := 2, ground := Go.Ground.data }], guard := none }) (v := .map (some q.M)) [13] rfl (by kernel_rfl) (by kernel_rfl) (by kernel_rfl) (by kernel_rfl) (fun _ _ _ h => calm_panic h) rfl ?_ q1 ?_
                  · intro Z hZ; obtain ⟨z1, z2, z3⟩ := hZ; go_simp
                  simp only [Act.put, List.setIfInBounds_toArray, List.set_cons_zero, List.set_cons_succ]
                  refine takeL (i := 4) (oi := { dst := some 85, op := Go.Op.move (Go.Operand.tmp 0), type := 28, pos := "ref.go:155", after := #[], guard := none }) (v := .pointer (some ⟨q.D, 0, none⟩)) [13, 11, 10, 9, 7, 6, 5] rfl (by kernel_rfl) (by kernel_rfl) (by kernel_rfl) (by kernel_rfl) (fun _ _ _ h => calm_panic h) rfl ?_ q1 ?_
                  · intro Z hZ; go_simp
                  simp only [Act.put, List.setIfInBounds_toArray, List.set_cons_zero, List.set_cons_succ]
                  refine takeL (i := 5) (oi := { dst := some 86, op := Go.Op.nilCheck (Go.Operand.tmp 85), type := 0, pos := "ref.go:155", after := #[{ on := 4, ground := Go.Ground.data }], guard := none }) (v := .pointer (some ⟨q.D, 0, none⟩)) [13, 11, 10, 9, 7, 6] rfl (by kernel_rfl) (by kernel_rfl) (by kernel_rfl) (by kernel_rfl) (fun _ _ _ h => calm_panic h) rfl ?_ q1 ?_
                  · intro Z hZ; go_simp
                  simp only [Act.put, List.setIfInBounds_toArray, List.set_cons_zero, List.set_cons_succ]
                  refine takeL (i := 6) (oi := { dst := some 87, op := Go.Op.fieldAddr 42 (Go.Operand.tmp 86) 2, type := 0, pos := "ref.go:155", after := #[{ on := 5, ground := Go.Ground.data }], guard := none }) (v := .pointer (some ⟨q.D, 2, none⟩)) [13, 11, 10, 9, 7] rfl (by kernel_rfl) (by kernel_rfl) (by kernel_rfl) (by kernel_rfl) (fun _ _ _ h => calm_panic h) rfl ?_ q1 ?_
                  · intro Z hZ; go_simp
                  simp only [Act.put, List.setIfInBounds_toArray, List.set_cons_zero, List.set_cons_succ]
                  refine takeL (i := 7) (oi := { dst := some 88, op := Go.Op.load 40 (Go.Operand.tmp 87), type := 40, pos := "ref.go:155", after := #[{ on := 6, ground := Go.Ground.data }], guard := none }) (v := .slice (some ⟨g, 0, none⟩) N c0) [13, 11, 10, 9] rfl (by kernel_rfl) (by kernel_rfl) (by kernel_rfl) (by kernel_rfl) (fun _ _ _ h => calm_panic h) rfl ?_ q1 ?_
                  · intro Z hZ; obtain ⟨z1, z2, z3⟩ := hZ; go_simp
                  simp only [Act.put, List.setIfInBounds_toArray, List.set_cons_zero, List.set_cons_succ]
                  refine takeL (i := 8) (oi := { dst := some 89, op := Go.Op.move (Go.Operand.tmp 5), type := 3, pos := "ref.go:155", after := #[], guard := none }) (v := .int .i64 (k : Int)) [13, 11, 10, 9] rfl (by kernel_rfl) (by kernel_rfl) (by kernel_rfl) (by kernel_rfl) (fun _ _ _ h => calm_panic h) rfl ?_ q1 ?_
                  · intro Z hZ; go_simp
                  simp only [Act.put, List.setIfInBounds_toArray, List.set_cons_zero, List.set_cons_succ]
                  refine takeL (i := 9) (oi := { dst := some 90, op := Go.Op.indexAddr 40 (Go.Operand.tmp 88) (Go.Operand.tmp 89), type := 0, pos := "ref.go:155", after := #[{ on := 7, ground := Go.Ground.data }, { on := 8, ground := Go.Ground.data }], guard := none }) (v := .pointer (some ⟨g, k * 2, none⟩)) [13, 11, 10] rfl (by kernel_rfl) (by kernel_rfl) (by kernel_rfl) (by kernel_rfl) (fun _ _ _ h => calm_panic h) rfl ?_ q1 ?_
                  · intro Z hZ; go_simp
                  simp only [Act.put, List.setIfInBounds_toArray, List.set_cons_zero, List.set_cons_succ]
                  refine takeL (i := 10) (oi := { dst := some 91, op := Go.Op.fieldAddr 47 (Go.Operand.tmp 90) 0, type := 0, pos := "ref.go:155", after := #[{ on := 9, ground := Go.Ground.data }], guard := none }) (v := .pointer (some ⟨g, k * 2, none⟩)) [13, 11] rfl (by kernel_rfl) (by kernel_rfl) (by kernel_rfl) (by kernel_rfl) (fun _ _ _ h => calm_panic h) rfl ?_ q1 ?_
                  · intro Z hZ; go_simp
                  simp only [Act.put, List.setIfInBounds_toArray, List.set_cons_zero, List.set_cons_succ]
                  refine takeL (i := 11) (oi := { dst := some 92, op := Go.Op.load 3 (Go.Operand.tmp 91), type := 3, pos := "ref.go:155", after := #[{ on := 10, ground := Go.Ground.data }], guard := none }) (v := .int .i64 (n : Int)) [13] rfl (by kernel_rfl) (by kernel_rfl) (by kernel_rfl) (by kernel_rfl) (fun _ _ _ h => calm_panic h) rfl ?_ q1 ?_
                  · intro Z hZ; obtain ⟨z1, z2, z3⟩ := hZ; go_simp
                  simp only [Act.put, List.setIfInBounds_toArray, List.set_cons_zero, List.set_cons_succ]
                  refine takeL (i := 12) (oi := { dst := some 93, op := Go.Op.move (Go.Operand.tmp 7), type := 32, pos := "ref.go:155", after := #[], guard := none }) (v := .slice (some ⟨g1, 0, none⟩) v28 cp1) [13] rfl (by kernel_rfl) (by kernel_rfl) (by kernel_rfl) (by kernel_rfl) (fun _ _ _ h => calm_panic h) rfl ?_ q1 ?_
                  · intro Z hZ; go_simp
                  simp only [Act.put, List.setIfInBounds_toArray, List.set_cons_zero, List.set_cons_succ]
                  refine oneL (i := 13) (o := { dst := none, op := Go.Op.mapUpdate 39 (Go.Operand.tmp 84) (Go.Operand.tmp 92) (Go.Operand.tmp 93), type := 0, pos := "ref.go:155", after := #[{ on := 3, ground := Go.Ground.data }, { on := 11, ground := Go.Ground.data }, { on := 12, ground := Go.Ground.data }, { on := 0, ground := Go.Ground.phase }, { on := 1, ground := Go.Ground.phase }, { on := 2, ground := Go.Ground.phase }, { on := 3, ground := Go.Ground.phase }, { on := 4, ground := Go.Ground.phase }, { on := 5, ground := Go.Ground.phase }, { on := 6, ground := Go.Ground.phase }, { on := 7, ground := Go.Ground.phase }, { on := 8, ground := Go.Ground.phase }, { on := 9, ground := Go.Ground.phase }, { on := 10, ground := Go.Ground.phase }, { on := 11, ground := Go.Ground.phase }, { on := 12, ground := Go.Ground.phase }], guard := none }) rfl (by kernel_rfl) rfl ?_
                  refine wp_by_skip (w' := W') (exec_mapU rfl rfl rfl rfl HU.out) ⟨fun h => absurd rfl h, ?_⟩
                  simp only [Act.put, List.setIfInBounds_toArray, List.set_cons_zero, List.set_cons_succ]
                  refine doneL (by kernel_rfl) (Calm.normal ?_) _
                  have wk := HWK.out
                  go_wp2
                  go_roundw
                  case rel => exact ⟨k + 1, by first | rfl | rw [wk], HLT.out, HREL.out⟩
                  case measure => exact meas_succ HLT.out wk
                · have j1 : ¬ ((j : Int) < 128) := by omega
                  clear j128
                  go_wp2_with fail
                  refine regionL (fun Z : World => Z.cell? ⟨q.D, 1, none⟩ = some (.map (some q.M)) ∧ Z.cell? ⟨q.D, 2, none⟩ = some (.slice (some ⟨g, 0, none⟩) N c0) ∧ Z.cell? ⟨g, k * 2, none⟩ = some (.int .i64 (n : Int))) 13 (by kernel_rfl) ?_
                  refine takeL (i := 0) (oi := { dst := some 81, op := Go.Op.move (Go.Operand.tmp 0), type := 28, pos := "ref.go:155", after := #[], guard := none }) (v := .pointer (some ⟨q.D, 0, none⟩)) [13, 3, 2, 1] rfl (by kernel_rfl) (by kernel_rfl) (by kernel_rfl) (by kernel_rfl) (fun _ _ _ h => calm_panic h) rfl ?_ q1 ?_
                  · intro Z hZ; go_simp
                  simp only [Act.put, List.setIfInBounds_toArray, List.set_cons_zero, List.set_cons_succ]
                  refine takeL (i := 1) (oi := { dst := some 82, op := Go.Op.nilCheck (Go.Operand.tmp 81), type := 0, pos := "ref.go:155", after := #[{ on := 0, ground := Go.Ground.data }], guard := none }) (v := .pointer (some ⟨q.D, 0, none⟩)) [13, 3, 2] rfl (by kernel_rfl) (by kernel_rfl) (by kernel_rfl) (by kernel_rfl) (fun _ _ _ h => calm_panic h) rfl ?_ q1 ?_
                  · intro Z hZ; go_simp
                  simp only [Act.put, List.setIfInBounds_toArray, List.set_cons_zero, List.set_cons_succ]
                  refine takeL (i := 2) (oi := { dst := some 83, op := Go.Op.fieldAddr 42 (Go.Operand.tmp 82) 1, type := 0, pos := "ref.go:155", after := #[{ on := 1, ground := Go.Ground.data }], guard := none }) (v := .pointer (some ⟨q.D, 1, none⟩)) [13, 3] rfl (by kernel_rfl) (by kernel_rfl) (by kernel_rfl) (by kernel_rfl) (fun _ _ _ h => calm_panic h) rfl ?_ q1 ?_
                  · intro Z hZ; go_simp
                  simp only [Act.put, List.setIfInBounds_toArray, List.set_cons_zero, List.set_cons_succ]
                  refine takeL (i := 3) (oi := { dst := some 84, op := Go.Op.load 39 (Go.Operand.tmp 83), type := 39, pos := "ref.go:155", after := #[{ on := 2, ground := Go.Ground.data }], guard := none }) (v := .map (some q.M)) [13] rfl (by kernel_rfl) (by kernel_rfl) (by kernel_rfl) (by kernel_rfl) (fun _ _ _ h => calm_panic h) rfl ?_ q1 ?_
                  · intro Z hZ; obtain ⟨z1, z2, z3⟩ := hZ; go_simp
                  simp only [Act.put, List.setIfInBounds_toArray, List.set_cons_zero, List.set_cons_succ]
                  refine takeL (i := 4) (oi := { dst := some 85, op := Go.Op.move (Go.Operand.tmp 0), type := 28, pos := "ref.go:155", after := #[], guard := none }) (v := .pointer (some ⟨q.D, 0, none⟩)) [13, 11, 10, 9, 7, 6, 5] rfl (by kernel_rfl) (by kernel_rfl) (by kernel_rfl) (by kernel_rfl) (fun _ _ _ h => calm_panic h) rfl ?_ q1 ?_
                  · intro Z hZ; go_simp
                  simp only [Act.put, List.setIfInBounds_toArray, List.set_cons_zero, List.set_cons_succ]
                  refine takeL (i := 5) (oi := { dst := some 86, op := Go.Op.nilCheck (Go.Operand.tmp 85), type := 0, pos := "ref.go:155", after := #[{ on := 4, ground := Go.Ground.data }], guard := none }) (v := .pointer (some ⟨q.D, 0, none⟩)) [13, 11, 10, 9, 7, 6] rfl (by kernel_rfl) (by kernel_rfl) (by kernel_rfl) (by kernel_rfl) (fun _ _ _ h => calm_panic h) rfl ?_ q1 ?_
                  · intro Z hZ; go_simp
                  simp only [Act.put, List.setIfInBounds_toArray, List.set_cons_zero, List.set_cons_succ]
                  refine takeL (i := 6) (oi := { dst := some 87, op := Go.Op.fieldAddr 42 (Go.Operand.tmp 86) 2, type := 0, pos := "ref.go:155", after := #[{ on := 5, ground := Go.Ground.data }], guard := none }) (v := .pointer (some ⟨q.D, 2, none⟩)) [13, 11, 10, 9, 7] rfl (by kernel_rfl) (by kernel_rfl) (by kernel_rfl) (by kernel_rfl) (fun _ _ _ h => calm_panic h) rfl ?_ q1 ?_
                  · intro Z hZ; go_simp
                  simp only [Act.put, List.setIfInBounds_toArray, List.set_cons_zero, List.set_cons_succ]
                  refine takeL (i := 7) (oi := { dst := some 88, op := Go.Op.load 40 (Go.Operand.tmp 87), type := 40, pos := "ref.go:155", after := #[{ on := 6, ground := Go.Ground.data }], guard := none }) (v := .slice (some ⟨g, 0, none⟩) N c0) [13, 11, 10, 9] rfl (by kernel_rfl) (by kernel_rfl) (by kernel_rfl) (by kernel_rfl) (fun _ _ _ h => calm_panic h) rfl ?_ q1 ?_
                  · intro Z hZ; obtain ⟨z1, z2, z3⟩ := hZ; go_simp
                  simp only [Act.put, List.setIfInBounds_toArray, List.set_cons_zero, List.set_cons_succ]
                  refine takeL (i := 8) (oi := { dst := some 89, op := Go.Op.move (Go.Operand.tmp 5), type := 3, pos := "ref.go:155", after := #[], guard := none }) (v := .int .i64 (k : Int)) [13, 11, 10, 9] rfl (by kernel_rfl) (by kernel_rfl) (by kernel_rfl) (by kernel_rfl) (fun _ _ _ h => calm_panic h) rfl ?_ q1 ?_
                  · intro Z hZ; go_simp
                  simp only [Act.put, List.setIfInBounds_toArray, List.set_cons_zero, List.set_cons_succ]
                  refine takeL (i := 9) (oi := { dst := some 90, op := Go.Op.indexAddr 40 (Go.Operand.tmp 88) (Go.Operand.tmp 89), type := 0, pos := "ref.go:155", after := #[{ on := 7, ground := Go.Ground.data }, { on := 8, ground := Go.Ground.data }], guard := none }) (v := .pointer (some ⟨g, k * 2, none⟩)) [13, 11, 10] rfl (by kernel_rfl) (by kernel_rfl) (by kernel_rfl) (by kernel_rfl) (fun _ _ _ h => calm_panic h) rfl ?_ q1 ?_
                  · intro Z hZ; go_simp
                  simp only [Act.put, List.setIfInBounds_toArray, List.set_cons_zero, List.set_cons_succ]
                  refine takeL (i := 10) (oi := { dst := some 91, op := Go.Op.fieldAddr 47 (Go.Operand.tmp 90) 0, type := 0, pos := "ref.go:155", after := #[{ on := 9, ground := Go.Ground.data }], guard := none }) (v := .pointer (some ⟨g, k * 2, none⟩)) [13, 11] rfl (by kernel_rfl) (by kernel_rfl) (by kernel_rfl) (by kernel_rfl) (fun _ _ _ h => calm_panic h) rfl ?_ q1 ?_
                  · intro Z hZ; go_simp
                  simp only [Act.put, List.setIfInBounds_toArray, List.set_cons_zero, List.set_cons_succ]
                  refine takeL (i := 11) (oi := { dst := some 92, op := Go.Op.load 3 (Go.Operand.tmp 91), type := 3, pos := "ref.go:155", after := #[{ on := 10, ground := Go.Ground.data }], guard := none }) (v := .int .i64 (n : Int)) [13] rfl (by kernel_rfl) (by kernel_rfl) (by kernel_rfl) (by kernel_rfl) (fun _ _ _ h => calm_panic h) rfl ?_ q1 ?_
                  · intro Z hZ; obtain ⟨z1, z2, z3⟩ := hZ; go_simp
                  simp only [Act.put, List.setIfInBounds_toArray, List.set_cons_zero, List.set_cons_succ]
                  refine takeL (i := 12) (oi := { dst := some 93, op := Go.Op.move (Go.Operand.tmp 7), type := 32, pos := "ref.go:155", after := #[], guard := none }) (v := .slice (some ⟨g1, 0, none⟩) v28 cp1) [13] rfl (by kernel_rfl) (by kernel_rfl) (by kernel_rfl) (by kernel_rfl) (fun _ _ _ h => calm_panic h) rfl ?_ q1 ?_
                  · intro Z hZ; go_simp
                  simp only [Act.put, List.setIfInBounds_toArray, List.set_cons_zero, List.set_cons_succ]
                  refine oneL (i := 13) (o := { dst := none, op := Go.Op.mapUpdate 39 (Go.Operand.tmp 84) (Go.Operand.tmp 92) (Go.Operand.tmp 93), type := 0, pos := "ref.go:155", after := #[{ on := 3, ground := Go.Ground.data }, { on := 11, ground := Go.Ground.data }, { on := 12, ground := Go.Ground.data }, { on := 0, ground := Go.Ground.phase }, { on := 1, ground := Go.Ground.phase }, { on := 2, ground := Go.Ground.phase }, { on := 3, ground := Go.Ground.phase }, { on := 4, ground := Go.Ground.phase }, { on := 5, ground := Go.Ground.phase }, { on := 6, ground := Go.Ground.phase }, { on := 7, ground := Go.Ground.phase }, { on := 8, ground := Go.Ground.phase }, { on := 9, ground := Go.Ground.phase }, { on := 10, ground := Go.Ground.phase }, { on := 11, ground := Go.Ground.phase }, { on := 12, ground := Go.Ground.phase }], guard := none }) rfl (by kernel_rfl) rfl ?_
                  refine wp_by_skip (w' := W') (exec_mapU rfl rfl rfl rfl HU.out) ⟨fun h => absurd rfl h, ?_⟩
                  simp only [Act.put, List.setIfInBounds_toArray, List.set_cons_zero, List.set_cons_succ]
                  refine doneL (by kernel_rfl) (Calm.normal ?_) _
                  have wk := HWK.out
                  go_wp2
                  go_roundw
                  case rel => exact ⟨k + 1, by first | rfl | rw [wk], HLT.out, HREL.out⟩
                  case measure => exact meas_succ HLT.out wk
          · have HM := Lib.hid (show ∀ j : Nat, j < 128 → ((j : Int) < 0 ↔ j < lk) from by rw [← HLK.out, ← HLN.out]; exact fun j hj => leftN_in (.inr (.inr ⟨(fun z => absurd (show ((k : Int) == t) = false by assumption) (by rw [z]; simp)), rfl, (leftN_bit (x := x) HQ8.out HR8.out HBV.out HBD.out.1 HH1.out (show ((k : Int) == t) = false by assumption)).2 (by assumption)⟩)) j hj)
            refine HA.out.mono ?_
            rintro e w1 ⟨v1, rfl, hO1, hB1⟩
            have HO1 := Lib.hid hO1
            have HB1 := Lib.hid hB1
            clear hO1 hB1
            obtain ⟨a1, cp1, hv1⟩ := HO1.out.form
            rw [HATL.out] at hv1
            obtain ⟨g1, rfl, hg1, hg1'⟩ := (show Own8 wo.heap.size w1 (.slice a1 128 cp1) ((d.part LN k).at n) by rw [← hv1]; exact HO1.out).at_ (by decide)
            subst hv1
            obtain ⟨v28, hv28⟩ : ∃ v28, (128 : Nat) = v28 := ⟨_, rfl⟩
            have HV28 := Lib.hid hv28
            rw [hv28] at HO1 ⊢
            clear hv28
            go_wp2_with fail
            go_loopw [8] (fun i w2 => ∃ j : Nat, i = .int .i64 (j : Int) ∧ j ≤ lk ∧ Own8 wo.heap.size w2 (.slice (some ⟨g1, 0, none⟩) v28 cp1) (L0.take j ++ ((d.part LN k).at n).drop j) ∧ Below wo.heap.size wo w2) (fun i _ => (128 - intOf i).toNat)
            case atStart => exact ⟨0, rfl, Nat.zero_le _, by rw [List.take_zero, List.nil_append, List.drop_zero]; exact HO1.out, HB1.out⟩
            case round =>
              obtain ⟨j, rfl, hj, hO, hB2⟩ := hrel
              clear c1 hc2 HO1 HB1
              have w2c : wr.cell? ⟨q.D, 2, none⟩ = some (.slice (some ⟨g, 0, none⟩) N c0) := by rw [← HV0.out]; exact (HR.out.below hB2).dev.cell 2
              have j0 : (0 : Int) ≤ (j : Int) := Int.natCast_nonneg j
              by_cases hjl : j < lk
              · have h128 : j < 128 := by have := HLK8.out; omega
                exact absurd ((HM.out j h128).2 hjl) (by omega)
              · have hjk : j = lk := by omega
                subst hjk
                have hL8 := HLK8.out
                have hO' := hO
                rw [← HV28.out] at hO'
                have hX := (HR.out.below hB2).drew
                obtain ⟨W', hr, hR', hu'⟩ := ref_store hX (by show q.u + k < _; have := HNL.out; have := HLT.out; have := HU0.out; omega) n HP2.out _ _ (hO'.le (Nat.zero_le _)) (off_fresh HR.out hO') (mix_len HSL.out HSO.out j hL8)
                rw [HV28.out] at hr
                replace hr : (Instr.mapUpdate 39 (.map (some q.M)) (.int .i64 (n : Int)) (.slice (some ⟨g1, 0, none⟩) v28 cp1)).run Try.prog wr.drew = .ok () W' := hr
                have HU := Lib.hid hr
                have uAll : Upd (rown q) wo W' := (Upd.of hB2 _).drew.trans hu' (fun j e => .inl e)
                have HREL := Lib.hid (show RefAt W' { q with u := q.u + (k + 1) } (d.part LN (k + 1)) ∧ Upd (rown q) w W' ∧ At 34 W' CB #[.slice (some ⟨b, off, none⟩) K.length c, .int .i64 t, .int .i64 x] ∧ Bys8 CB W' (.slice (some ⟨b, off, none⟩) K.length c) K from
                  ⟨by rw [HP.out, HLK.out]; exact hR', HB.out.trans uAll (fun j e => .inl e), HC.out.upd uAll HNR.out, bys8_upd HKB.out uAll (Nat.le_of_lt HCBL.out) HKA.out⟩)
                have q1 : (fun Z : World => Z.cell? ⟨q.D, 1, none⟩ = some (.map (some q.M)) ∧ Z.cell? ⟨q.D, 2, none⟩ = some (.slice (some ⟨g, 0, none⟩) N c0) ∧ Z.cell? ⟨g, k * 2, none⟩ = some (.int .i64 (n : Int))) wr.drew := ⟨hX.dev.cell 1, w2c, (hB2.cell (p := ⟨g, k * 2, none⟩) HG.out).trans HE0.out⟩
                have HJM := Lib.hid (fun (h : j < 128) => (show ¬ ((j : Int) < 0) from fun q => Nat.lt_irrefl _ ((HM.out j h).1 q)))
                clear hj hO hO' hB2 hjl hr hR' hu' uAll hX w2c hL8
                by_cases j128 : j < 128
                · have j1 : (j : Int) < 128 := by omega
                  have j2 := HJM.out j128
                  clear j128
                  go_wp2_with fail
                  refine regionL (fun Z : World => Z.cell? ⟨q.D, 1, none⟩ = some (.map (some q.M)) ∧ Z.cell? ⟨q.D, 2, none⟩ = some (.slice (some ⟨g, 0, none⟩) N c0) ∧ Z.cell? ⟨g, k * 2, none⟩ = some (.int .i64 (n : Int))) 13 (by kernel_rfl) ?_
                  refine takeL (i := 0) (oi := { dst := some 81, op := Go.Op.move (Go.Operand.tmp 0), type := 28, pos := "ref.go:155", after := #[], guard := none }) (v := .pointer (some ⟨q.D, 0, none⟩)) [13, 3, 2, 1] rfl (by kernel_rfl) (by kernel_rfl) (by kernel_rfl) (by kernel_rfl) (fun _ _ _ h => calm_panic h) rfl ?_ q1 ?_
                  · intro Z hZ; go_simp
                  simp only [Act.put, List.setIfInBounds_toArray, List.set_cons_zero, List.set_cons_succ]
                  refine takeL (i := 1) (oi := { dst := some 82, op := Go.Op.nilCheck (Go.Operand.tmp 81), type := 0, pos := "ref.go:155", after := #[{ on := 0, ground := Go.Ground.data }], guard := none }) (v := .pointer (some ⟨q.D, 0, none⟩)) [13, 3, 2] rfl (by kernel_rfl) (by kernel_rfl) (by kernel_rfl) (by kernel_rfl) (fun _ _ _ h => calm_panic h) rfl ?_ q1 ?_
                  · intro Z hZ; go_simp
                  simp only [Act.put, List.setIfInBounds_toArray, List.set_cons_zero, List.set_cons_succ]
                  refine takeL (i := 2) (oi := { dst := some 83, op := Go.Op.fieldAddr 42 (Go.Operand.tmp 82) 1, type := 0, pos := "ref.go:155", after := #[{ on := 1, ground := Go.Ground.data }], guard := none }) (v := .pointer (some ⟨q.D, 1, none⟩)) [13, 3] rfl (by kernel_rfl) (by kernel_rfl) (by kernel_rfl) (by kernel_rfl) (fun _ _ _ h => calm_panic h) rfl ?_ q1 ?_
                  · intro Z hZ; go_simp
                  simp only [Act.put, List.setIfInBounds_toArray, List.set_cons_zero, List.set_cons_succ]
                  refine takeL (i := 3) (oi := { dst := some 84, op := Go.Op.load 39 (Go.Operand.tmp 83), type := 39, pos := "ref.go:155", after := #[{ on := 2, ground := Go.Ground.data }], guard := none }) (v := .map (some q.M)) [13] rfl (by kernel_rfl) (by kernel_rfl) (by kernel_rfl) (by kernel_rfl) (fun _ _ _ h => calm_panic h) rfl ?_ q1 ?_
                  · intro Z hZ; obtain ⟨z1, z2, z3⟩ := hZ; go_simp
                  simp only [Act.put, List.setIfInBounds_toArray, List.set_cons_zero, List.set_cons_succ]
                  refine takeL (i := 4) (oi := { dst := some 85, op := Go.Op.move (Go.Operand.tmp 0), type := 28, pos := "ref.go:155", after := #[], guard := none }) (v := .pointer (some ⟨q.D, 0, none⟩)) [13, 11, 10, 9, 7, 6, 5] rfl (by kernel_rfl) (by kernel_rfl) (by kernel_rfl) (by kernel_rfl) (fun _ _ _ h => calm_panic h) rfl ?_ q1 ?_
                  · intro Z hZ; go_simp
                  simp only [Act.put, List.setIfInBounds_toArray, List.set_cons_zero, List.set_cons_succ]
                  refine takeL (i := 5) (oi := { dst := some 86, op := Go.Op.nilCheck (Go.Operand.tmp 85), type := 0, pos := "ref.go:155", after := #[{ on := 4, ground := Go.Ground.data }], guard := none }) (v := .pointer (some ⟨q.D, 0, none⟩)) [13, 11, 10, 9, 7, 6] rfl (by kernel_rfl) (by kernel_rfl) (by kernel_rfl) (by kernel_rfl) (fun _ _ _ h => calm_panic h) rfl ?_ q1 ?_
                  · intro Z hZ; go_simp
                  simp only [Act.put, List.setIfInBounds_toArray, List.set_cons_zero, List.set_cons_succ]
                  refine takeL (i := 6) (oi := { dst := some 87, op := Go.Op.fieldAddr 42 (Go.Operand.tmp 86) 2, type := 0, pos := "ref.go:155", after := #[{ on := 5, ground := Go.Ground.data }], guard := none }) (v := .pointer (some ⟨q.D, 2, none⟩)) [13, 11, 10, 9, 7] rfl (by kernel_rfl) (by kernel_rfl) (by kernel_rfl) (by kernel_rfl) (fun _ _ _ h => calm_panic h) rfl ?_ q1 ?_
                  · intro Z hZ; go_simp
                  simp only [Act.put, List.setIfInBounds_toArray, List.set_cons_zero, List.set_cons_succ]
                  refine takeL (i := 7) (oi := { dst := some 88, op := Go.Op.load 40 (Go.Operand.tmp 87), type := 40, pos := "ref.go:155", after := #[{ on := 6, ground := Go.Ground.data }], guard := none }) (v := .slice (some ⟨g, 0, none⟩) N c0) [13, 11, 10, 9] rfl (by kernel_rfl) (by kernel_rfl) (by kernel_rfl) (by kernel_rfl) (fun _ _ _ h => calm_panic h) rfl ?_ q1 ?_
                  · intro Z hZ; obtain ⟨z1, z2, z3⟩ := hZ; go_simp
                  simp only [Act.put, List.setIfInBounds_toArray, List.set_cons_zero, List.set_cons_succ]
                  refine takeL (i := 8) (oi := { dst := some 89, op := Go.Op.move (Go.Operand.tmp 5), type := 3, pos := "ref.go:155", after := #[], guard := none }) (v := .int .i64 (k : Int)) [13, 11, 10, 9] rfl (by kernel_rfl) (by kernel_rfl) (by kernel_rfl) (by kernel_rfl) (fun _ _ _ h => calm_panic h) rfl ?_ q1 ?_
                  · intro Z hZ; go_simp
                  simp only [Act.put, List.setIfInBounds_toArray, List.set_cons_zero, List.set_cons_succ]
                  refine takeL (i := 9) (oi := { dst := some 90, op := Go.Op.indexAddr 40 (Go.Operand.tmp 88) (Go.Operand.tmp 89), type := 0, pos := "ref.go:155", after := #[{ on := 7, ground := Go.Ground.data }, { on := 8, ground := Go.Ground.data }], guard := none }) (v := .pointer (some ⟨g, k * 2, none⟩)) [13, 11, 10] rfl (by kernel_rfl) (by kernel_rfl) (by kernel_rfl) (by kernel_rfl) (fun _ _ _ h => calm_panic h) rfl ?_ q1 ?_
                  · intro Z hZ; go_simp
                  simp only [Act.put, List.setIfInBounds_toArray, List.set_cons_zero, List.set_cons_succ]
                  refine takeL (i := 10) (oi := { dst := some 91, op := Go.Op.fieldAddr 47 (Go.Operand.tmp 90) 0, type := 0, pos := "ref.go:155", after := #[{ on := 9, ground := Go.Ground.data }], guard := none }) (v := .pointer (some ⟨g, k * 2, none⟩)) [13, 11] rfl (by kernel_rfl) (by kernel_rfl) (by kernel_rfl) (by kernel_rfl) (fun _ _ _ h => calm_panic h) rfl ?_ q1 ?_
                  · intro Z hZ; go_simp
                  simp only [Act.put, List.setIfInBounds_toArray, List.set_cons_zero, List.set_cons_succ]
                  refine takeL (i := 11) (oi := { dst := some 92, op := Go.Op.load 3 (Go.Operand.tmp 91), type := 3, pos := "ref.go:155", after := #[{ on := 10, ground := Go.Ground.data }], guard := none }) (v := .int .i64 (n : Int)) [13] rfl (by kernel_rfl) (by kernel_rfl) (by kernel_rfl) (by kernel_rfl) (fun _ _ _ h => calm_panic h) rfl ?_ q1 ?_
                  · intro Z hZ; obtain ⟨z1, z2, z3⟩ := hZ; go_simp
                  simp only [Act.put, List.setIfInBounds_toArray, List.set_cons_zero, List.set_cons_succ]
                  refine takeL (i := 12) (oi := { dst := some 93, op := Go.Op.move (Go.Operand.tmp 7), type := 32, pos := "ref.go:155", after := #[], guard := none }) (v := .slice (some ⟨g1, 0, none⟩) v28 cp1) [13] rfl (by kernel_rfl) (by kernel_rfl) (by kernel_rfl) (by kernel_rfl) (fun _ _ _ h => calm_panic h) rfl ?_ q1 ?_
                  · intro Z hZ; go_simp
                  simp only [Act.put, List.setIfInBounds_toArray, List.set_cons_zero, List.set_cons_succ]
                  refine oneL (i := 13) (o := { dst := none, op := Go.Op.mapUpdate 39 (Go.Operand.tmp 84) (Go.Operand.tmp 92) (Go.Operand.tmp 93), type := 0, pos := "ref.go:155", after := #[{ on := 3, ground := Go.Ground.data }, { on := 11, ground := Go.Ground.data }, { on := 12, ground := Go.Ground.data }, { on := 0, ground := Go.Ground.phase }, { on := 1, ground := Go.Ground.phase }, { on := 2, ground := Go.Ground.phase }, { on := 3, ground := Go.Ground.phase }, { on := 4, ground := Go.Ground.phase }, { on := 5, ground := Go.Ground.phase }, { on := 6, ground := Go.Ground.phase }, { on := 7, ground := Go.Ground.phase }, { on := 8, ground := Go.Ground.phase }, { on := 9, ground := Go.Ground.phase }, { on := 10, ground := Go.Ground.phase }, { on := 11, ground := Go.Ground.phase }, { on := 12, ground := Go.Ground.phase }], guard := none }) rfl (by kernel_rfl) rfl ?_
                  refine wp_by_skip (w' := W') (exec_mapU rfl rfl rfl rfl HU.out) ⟨fun h => absurd rfl h, ?_⟩
                  simp only [Act.put, List.setIfInBounds_toArray, List.set_cons_zero, List.set_cons_succ]
                  refine doneL (by kernel_rfl) (Calm.normal ?_) _
                  have wk := HWK.out
                  go_wp2
                  go_roundw
                  case rel => exact ⟨k + 1, by first | rfl | rw [wk], HLT.out, HREL.out⟩
                  case measure => exact meas_succ HLT.out wk
                · have j1 : ¬ ((j : Int) < 128) := by omega
                  clear j128
                  go_wp2_with fail
                  refine regionL (fun Z : World => Z.cell? ⟨q.D, 1, none⟩ = some (.map (some q.M)) ∧ Z.cell? ⟨q.D, 2, none⟩ = some (.slice (some ⟨g, 0, none⟩) N c0) ∧ Z.cell? ⟨g, k * 2, none⟩ = some (.int .i64 (n : Int))) 13 (by kernel_rfl) ?_
                  refine takeL (i := 0) (oi := { dst := some 81, op := Go.Op.move (Go.Operand.tmp 0), type := 28, pos := "ref.go:155", after := #[], guard := none }) (v := .pointer (some ⟨q.D, 0, none⟩)) [13, 3, 2, 1] rfl (by kernel_rfl) (by kernel_rfl) (by kernel_rfl) (by kernel_rfl) (fun _ _ _ h => calm_panic h) rfl ?_ q1 ?_
                  · intro Z hZ; go_simp
                  simp only [Act.put, List.setIfInBounds_toArray, List.set_cons_zero, List.set_cons_succ]
                  refine takeL (i := 1) (oi := { dst := some 82, op := Go.Op.nilCheck (Go.Operand.tmp 81), type := 0, pos := "ref.go:155", after := #[{ on := 0, ground := Go.Ground.data }], guard := none }) (v := .pointer (some ⟨q.D, 0, none⟩)) [13, 3, 2] rfl (by kernel_rfl) (by kernel_rfl) (by kernel_rfl) (by kernel_rfl) (fun _ _ _ h => calm_panic h) rfl ?_ q1 ?_
                  · intro Z hZ; go_simp
                  simp only [Act.put, List.setIfInBounds_toArray, List.set_cons_zero, List.set_cons_succ]
                  refine takeL (i := 2) (oi := { dst := some 83, op := Go.Op.fieldAddr 42 (Go.Operand.tmp 82) 1, type := 0, pos := "ref.go:155", after := #[{ on := 1, ground := Go.Ground.data }], guard := none }) (v := .pointer (some ⟨q.D, 1, none⟩)) [13, 3] rfl (by kernel_rfl) (by kernel_rfl) (by kernel_rfl) (by kernel_rfl) (fun _ _ _ h => calm_panic h) rfl ?_ q1 ?_
                  · intro Z hZ; go_simp
                  simp only [Act.put, List.setIfInBounds_toArray, List.set_cons_zero, List.set_cons_succ]
                  refine takeL (i := 3) (oi := { dst := some 84, op := Go.Op.load 39 (Go.Operand.tmp 83), type := 39, pos := "ref.go:155", after := #[{ on := 2, ground := Go.Ground.data }], guard := none }) (v := .map (some q.M)) [13] rfl (by kernel_rfl) (by kernel_rfl) (by kernel_rfl) (by kernel_rfl) (fun _ _ _ h => calm_panic h) rfl ?_ q1 ?_
                  · intro Z hZ; obtain ⟨z1, z2, z3⟩ := hZ; go_simp
                  simp only [Act.put, List.setIfInBounds_toArray, List.set_cons_zero, List.set_cons_succ]
                  refine takeL (i := 4) (oi := { dst := some 85, op := Go.Op.move (Go.Operand.tmp 0), type := 28, pos := "ref.go:155", after := #[], guard := none }) (v := .pointer (some ⟨q.D, 0, none⟩)) [13, 11, 10, 9, 7, 6, 5] rfl (by kernel_rfl) (by kernel_rfl) (by kernel_rfl) (by kernel_rfl) (fun _ _ _ h => calm_panic h) rfl ?_ q1 ?_
                  · intro Z hZ; go_simp
                  simp only [Act.put, List.setIfInBounds_toArray, List.set_cons_zero, List.set_cons_succ]
                  refine takeL (i := 5) (oi := { dst := some 86, op := Go.Op.nilCheck (Go.Operand.tmp 85), type := 0, pos := "ref.go:155", after := #[{ on := 4, ground := Go.Ground.data }], guard := none }) (v := .pointer (some ⟨q.D, 0, none⟩)) [13, 11, 10, 9, 7, 6] rfl (by kernel_rfl) (by kernel_rfl) (by kernel_rfl) (by kernel_rfl) (fun _ _ _ h => calm_panic h) rfl ?_ q1 ?_
                  · intro Z hZ; go_simp
                  simp only [Act.put, List.setIfInBounds_toArray, List.set_cons_zero, List.set_cons_succ]
                  refine takeL (i := 6) (oi := { dst := some 87, op := Go.Op.fieldAddr 42 (Go.Operand.tmp 86) 2, type := 0, pos := "ref.go:155", after := #[{ on := 5, ground := Go.Ground.data }], guard := none }) (v := .pointer (some ⟨q.D, 2, none⟩)) [13, 11, 10, 9, 7] rfl (by kernel_rfl) (by kernel_rfl) (by kernel_rfl) (by kernel_rfl) (fun _ _ _ h => calm_panic h) rfl ?_ q1 ?_
                  · intro Z hZ; go_simp
                  simp only [Act.put, List.setIfInBounds_toArray, List.set_cons_zero, List.set_cons_succ]
                  refine takeL (i := 7) (oi := { dst := some 88, op := Go.Op.load 40 (Go.Operand.tmp 87), type := 40, pos := "ref.go:155", after := #[{ on := 6, ground := Go.Ground.data }], guard := none }) (v := .slice (some ⟨g, 0, none⟩) N c0) [13, 11, 10, 9] rfl (by kernel_rfl) (by kernel_rfl) (by kernel_rfl) (by kernel_rfl) (fun _ _ _ h => calm_panic h) rfl ?_ q1 ?_
                  · intro Z hZ; obtain ⟨z1, z2, z3⟩ := hZ; go_simp
                  simp only [Act.put, List.setIfInBounds_toArray, List.set_cons_zero, List.set_cons_succ]
                  refine takeL (i := 8) (oi := { dst := some 89, op := Go.Op.move (Go.Operand.tmp 5), type := 3, pos := "ref.go:155", after := #[], guard := none }) (v := .int .i64 (k : Int)) [13, 11, 10, 9] rfl (by kernel_rfl) (by kernel_rfl) (by kernel_rfl) (by kernel_rfl) (fun _ _ _ h => calm_panic h) rfl ?_ q1 ?_
                  · intro Z hZ; go_simp
                  simp only [Act.put, List.setIfInBounds_toArray, List.set_cons_zero, List.set_cons_succ]
                  refine takeL (i := 9) (oi := { dst := some 90, op := Go.Op.indexAddr 40 (Go.Operand.tmp 88) (Go.Operand.tmp 89), type := 0, pos := "ref.go:155", after := #[{ on := 7, ground := Go.Ground.data }, { on := 8, ground := Go.Ground.data }], guard := none }) (v := .pointer (some ⟨g, k * 2, none⟩)) [13, 11, 10] rfl (by kernel_rfl) (by kernel_rfl) (by kernel_rfl) (by kernel_rfl) (fun _ _ _ h => calm_panic h) rfl ?_ q1 ?_
                  · intro Z hZ; go_simp
                  simp only [Act.put, List.setIfInBounds_toArray, List.set_cons_zero, List.set_cons_succ]
                  refine takeL (i := 10) (oi := { dst := some 91, op := Go.Op.fieldAddr 47 (Go.Operand.tmp 90) 0, type := 0, pos := "ref.go:155", after := #[{ on := 9, ground := Go.Ground.data }], guard := none }) (v := .pointer (some ⟨g, k * 2, none⟩)) [13, 11] rfl (by kernel_rfl) (by kernel_rfl) (by kernel_rfl) (by kernel_rfl) (fun _ _ _ h => calm_panic h) rfl ?_ q1 ?_
                  · intro Z hZ; go_simp
                  simp only [Act.put, List.setIfInBounds_toArray, List.set_cons_zero, List.set_cons_succ]
                  refine takeL (i := 11) (oi := { dst := some 92, op := Go.Op.load 3 (Go.Operand.tmp 91), type := 3, pos := "ref.go:155", after := #[{ on := 10, ground := Go.Ground.data }], guard := none }) (v := .int .i64 (n : Int)) [13] rfl (by kernel_rfl) (by kernel_rfl) (by kernel_rfl) (by kernel_rfl) (fun _ _ _ h => calm_panic h) rfl ?_ q1 ?_
                  · intro Z hZ; obtain ⟨z1, z2, z3⟩ := hZ; go_simp
                  simp only [Act.put, List.setIfInBounds_toArray, List.set_cons_zero, List.set_cons_succ]
                  refine takeL (i := 12) (oi := { dst := some 93, op := Go.Op.move (Go.Operand.tmp 7), type := 32, pos := "ref.go:155", after := #[], guard := none }) (v := .slice (some ⟨g1, 0, none⟩) v28 cp1) [13] rfl (by kernel_rfl) (by kernel_rfl) (by kernel_rfl) (by kernel_rfl) (fun _ _ _ h => calm_panic h) rfl ?_ q1 ?_
                  · intro Z hZ; go_simp
                  simp only [Act.put, List.setIfInBounds_toArray, List.set_cons_zero, List.set_cons_succ]
                  refine oneL (i := 13) (o := { dst := none, op := Go.Op.mapUpdate 39 (Go.Operand.tmp 84) (Go.Operand.tmp 92) (Go.Operand.tmp 93), type := 0, pos := "ref.go:155", after := #[{ on := 3, ground := Go.Ground.data }, { on := 11, ground := Go.Ground.data }, { on := 12, ground := Go.Ground.data }, { on := 0, ground := Go.Ground.phase }, { on := 1, ground := Go.Ground.phase }, { on := 2, ground := Go.Ground.phase }, { on := 3, ground := Go.Ground.phase }, { on := 4, ground := Go.Ground.phase }, { on := 5, ground := Go.Ground.phase }, { on := 6, ground := Go.Ground.phase }, { on := 7, ground := Go.Ground.phase }, { on := 8, ground := Go.Ground.phase }, { on := 9, ground := Go.Ground.phase }, { on := 10, ground := Go.Ground.phase }, { on := 11, ground := Go.Ground.phase }, { on := 12, ground := Go.Ground.phase }], guard := none }) rfl (by kernel_rfl) rfl ?_
                  refine wp_by_skip (w' := W') (exec_mapU rfl rfl rfl rfl HU.out) ⟨fun h => absurd rfl h, ?_⟩
                  simp only [Act.put, List.setIfInBounds_toArray, List.set_cons_zero, List.set_cons_succ]
                  refine doneL (by kernel_rfl) (Calm.normal ?_) _
                  have wk := HWK.out
                  go_wp2
                  go_roundw
                  case rel => exact ⟨k + 1, by first | rfl | rw [wk], HLT.out, HREL.out⟩
                  case measure => exact meas_succ HLT.out wk
        · have i8 : ¬ ((q8 : Int) < K.length) := by omega
          have i80 : (0 : Int) ≤ (q8 : Int) := Int.natCast_nonneg q8
          have i70 : (0 : Int) ≤ (r8 : Int) := Int.natCast_nonneg r8
          have HH1 := Lib.hid h1
          clear hKb h1
          go_wp2_with fail
          · have HM := Lib.hid (show ∀ j : Nat, j < 128 → ((j : Int) < x ↔ j < lk) from by rw [← HLK.out, ← HLN.out]; exact fun j hj => leftN_in (.inl ⟨rfl, (eq_of_beq (show ((k : Int) == t) = true by assumption))⟩) j hj)
            refine HA.out.mono ?_
            rintro e w1 ⟨v1, rfl, hO1, hB1⟩
            have HO1 := Lib.hid hO1
            have HB1 := Lib.hid hB1
            clear hO1 hB1
            obtain ⟨a1, cp1, hv1⟩ := HO1.out.form
            rw [HATL.out] at hv1
            obtain ⟨g1, rfl, hg1, hg1'⟩ := (show Own8 wo.heap.size w1 (.slice a1 128 cp1) ((d.part LN k).at n) by rw [← hv1]; exact HO1.out).at_ (by decide)
            subst hv1
            obtain ⟨v28, hv28⟩ : ∃ v28, (128 : Nat) = v28 := ⟨_, rfl⟩
            have HV28 := Lib.hid hv28
            rw [hv28] at HO1 ⊢
            clear hv28
            go_wp2_with fail
            go_loopw [8] (fun i w2 => ∃ j : Nat, i = .int .i64 (j : Int) ∧ j ≤ lk ∧ Own8 wo.heap.size w2 (.slice (some ⟨g1, 0, none⟩) v28 cp1) (L0.take j ++ ((d.part LN k).at n).drop j) ∧ Below wo.heap.size wo w2) (fun i _ => (128 - intOf i).toNat)
            case atStart => exact ⟨0, rfl, Nat.zero_le _, by rw [List.take_zero, List.nil_append, List.drop_zero]; exact HO1.out, HB1.out⟩
            case round =>
              obtain ⟨j, rfl, hj, hO, hB2⟩ := hrel
              clear c1 hc2 HO1 HB1
              have w2c : wr.cell? ⟨q.D, 2, none⟩ = some (.slice (some ⟨g, 0, none⟩) N c0) := by rw [← HV0.out]; exact (HR.out.below hB2).dev.cell 2
              have j0 : (0 : Int) ≤ (j : Int) := Int.natCast_nonneg j
              by_cases hjl : j < lk
              · have h128 : j < 128 := by have := HLK8.out; omega
                have j1 : (j : Int) < 128 := by omega
                have j2 : (j : Int) < x := (HM.out j h128).2 hjl
                have e1' : wr.cell? ⟨g, k * 2 + 1, none⟩ = some (.slice (some ⟨gv, 0, none⟩) 128 vc) := (hB2.cell (p := ⟨g, k * 2 + 1, none⟩) HG.out).trans HE1.out
                have b1 : wr.cell? ⟨gv, j, none⟩ = some (.int .u8 (L0.getD j 0)) := (hB2.cell (p := ⟨gv, j, none⟩) HGV.out).trans (HBYT.out j h128)
                obtain ⟨⟨u, hu1⟩, hu2, hu3⟩ := own_mix HSL.out HSO.out h128 (by rw [HV28.out]; exact hO)
                rw [HV28.out] at hu3 e1'
                obtain ⟨y, hy⟩ : ∃ y, L0.getD j 0 = y := ⟨_, rfl⟩
                rw [hy] at b1 hu3
                have j3 : (j : Int) < v28 := by rw [← HV28.out]; exact j1
                have wj : wrap64 ((j : Int) + 1) = ((j + 1 : Nat) : Int) := wrap_succ (by omega)
                have HREL := Lib.hid (And.intro hu3 (hB2.setCell (p := ⟨g1, j, none⟩) hg1 (.int .u8 y)))
                have HJL := Lib.hid hjl
                have HJ := Lib.hid h128
                have HWJ := Lib.hid wj
                clear hj hO hB2 hjl h128 hu3 hy wj
                go_wp2
                have wj := HWJ.out
                go_roundw
                case rel => exact ⟨j + 1, by first | rfl | rw [wj], HJL.out, HREL.out⟩
                case measure =>
                  have hj9 := HJ.out
                  first
                    | exact meas_succ (K := 128) HJ.out wj
                    | (clear wj; show ((128 : Int) - ((j : Int) + 1)).toNat < ((128 : Int) - (j : Int)).toNat; omega)
              · have hjk : j = lk := by omega
                subst hjk
                have hL8 := HLK8.out
                have hO' := hO
                rw [← HV28.out] at hO'
                have hX := (HR.out.below hB2).drew
                obtain ⟨W', hr, hR', hu'⟩ := ref_store hX (by show q.u + k < _; have := HNL.out; have := HLT.out; have := HU0.out; omega) n HP2.out _ _ (hO'.le (Nat.zero_le _)) (off_fresh HR.out hO') (mix_len HSL.out HSO.out j hL8)
                rw [HV28.out] at hr
                replace hr : (Instr.mapUpdate 39 (.map (some q.M)) (.int .i64 (n : Int)) (.slice (some ⟨g1, 0, none⟩) v28 cp1)).run Try.prog wr.drew = .ok () W' := hr
                have HU := Lib.hid hr
                have uAll : Upd (rown q) wo W' := (Upd.of hB2 _).drew.trans hu' (fun j e => .inl e)
                have HREL := Lib.hid (show RefAt W' { q with u := q.u + (k + 1) } (d.part LN (k + 1)) ∧ Upd (rown q) w W' ∧ At 34 W' CB #[.slice a K.length c, .int .i64 t, .int .i64 x] ∧ Bys8 CB W' (.slice a K.length c) K from
                  ⟨by rw [HP.out, HLK.out]; exact hR', HB.out.trans uAll (fun j e => .inl e), HC.out.upd uAll HNR.out, bys8_upd HKB.out uAll (Nat.le_of_lt HCBL.out) HKA.out⟩)
                have q1 : (fun Z : World => Z.cell? ⟨q.D, 1, none⟩ = some (.map (some q.M)) ∧ Z.cell? ⟨q.D, 2, none⟩ = some (.slice (some ⟨g, 0, none⟩) N c0) ∧ Z.cell? ⟨g, k * 2, none⟩ = some (.int .i64 (n : Int))) wr.drew := ⟨hX.dev.cell 1, w2c, (hB2.cell (p := ⟨g, k * 2, none⟩) HG.out).trans HE0.out⟩
                have HJM := Lib.hid (fun (h : j < 128) => (show ¬ ((j : Int) < x) from fun q => Nat.lt_irrefl _ ((HM.out j h).1 q)))
                clear hj hO hO' hB2 hjl hr hR' hu' uAll hX w2c hL8
                by_cases j128 : j < 128
                · have j1 : (j : Int) < 128 := by omega
                  have j2 := HJM.out j128
                  clear j128
                  go_wp2_with fail
                  refine regionL (fun Z : World => Z.cell? ⟨q.D, 1, none⟩ = some (.map (some q.M)) ∧ Z.cell? ⟨q.D, 2, none⟩ = some (.slice (some ⟨g, 0, none⟩) N c0) ∧ Z.cell? ⟨g, k * 2, none⟩ = some (.int .i64 (n : Int))) 13 (by kernel_rfl) ?_
                  refine takeL (i := 0) (oi := { dst := some 81, op := Go.Op.move (Go.Operand.tmp 0), type := 28, pos := "ref.go:155", after := #[], guard := none }) (v := .pointer (some ⟨q.D, 0, none⟩)) [13, 3, 2, 1] rfl (by kernel_rfl) (by kernel_rfl) (by kernel_rfl) (by kernel_rfl) (fun _ _ _ h => calm_panic h) rfl ?_ q1 ?_
                  · intro Z hZ; go_simp
                  simp only [Act.put, List.setIfInBounds_toArray, List.set_cons_zero, List.set_cons_succ]
                  refine takeL (i := 1) (oi := { dst := some 82, op := Go.Op.nilCheck (Go.Operand.tmp 81), type := 0, pos := "ref.go:155", after := #[{ on := 0, ground := Go.Ground.data }], guard := none }) (v := .pointer (some ⟨q.D, 0, none⟩)) [13, 3, 2] rfl (by kernel_rfl) (by kernel_rfl) (by kernel_rfl) (by kernel_rfl) (fun _ _ _ h => calm_panic h) rfl ?_ q1 ?_
                  · intro Z hZ; go_simp
                  simp only [Act.put, List.setIfInBounds_toArray, List.set_cons_zero, List.set_cons_succ]
                  refine takeL (i := 2) (oi := { dst := some 83, op := Go.Op.fieldAddr 42 (Go.Operand.tmp 82) 1, type := 0, pos := "ref.go:155", after := #[{ on := 1, ground := Go.Ground.data }], guard := none }) (v := .pointer (some ⟨q.D, 1, none⟩)) [13, 3] rfl (by kernel_rfl) (by kernel_rfl) (by kernel_rfl) (by kernel_rfl) (fun _ _ _ h => calm_panic h) rfl ?_ q1 ?_
                  · intro Z hZ; go_simp
                  simp only [Act.put, List.setIfInBounds_toArray, List.set_cons_zero, List.set_cons_succ]
                  refine takeL (i := 3) (oi := { dst := some 84, op := Go.Op.load 39 (Go.Operand.tmp 83), type := 39, pos := "ref.go:155", after := #[{ on := 2, ground := Go.Ground.data }], guard := none }) (v := .map (some q.M)) [13] rfl (by kernel_rfl) (by kernel_rfl) (by kernel_rfl) (by kernel_rfl) (fun _ _ _ h => calm_panic h) rfl ?_ q1 ?_
                  · intro Z hZ; obtain ⟨z1, z2, z3⟩ := hZ; go_simp
                  simp only [Act.put, List.setIfInBounds_toArray, List.set_cons_zero, List.set_cons_succ]
                  refine takeL (i := 4) (oi := { dst := some 85, op := Go.Op.move (Go.Operand.tmp 0), type := 28, pos := "ref.go:155", after := #[], guard := none }) (v := .pointer (some ⟨q.D, 0, none⟩)) [13, 11, 10, 9, 7, 6, 5] rfl (by kernel_rfl) (by kernel_rfl) (by kernel_rfl) (by kernel_rfl) (fun _ _ _ h => calm_panic h) rfl ?_ q1 ?_
                  · intro Z hZ; go_simp
                  simp only [Act.put, List.setIfInBounds_toArray, List.set_cons_zero, List.set_cons_succ]
                  refine takeL (i := 5) (oi := { dst := some 86, op := Go.Op.nilCheck (Go.Operand.tmp 85), type := 0, pos := "ref.go:155", after := #[{ on := 4, ground := Go.Ground.data }], guard := none }) (v := .pointer (some ⟨q.D, 0, none⟩)) [13, 11, 10, 9, 7, 6] rfl (by kernel_rfl) (by kernel_rfl) (by kernel_rfl) (by kernel_rfl) (fun _ _ _ h => calm_panic h) rfl ?_ q1 ?_
                  · intro Z hZ; go_simp
                  simp only [Act.put, List.setIfInBounds_toArray, List.set_cons_zero, List.set_cons_succ]
                  refine takeL (i := 6) (oi := { dst := some 87, op := Go.Op.fieldAddr 42 (Go.Operand.tmp 86) 2, type := 0, pos := "ref.go:155", after := #[{ on := 5, ground := Go.Ground.data }], guard := none }) (v := .pointer (some ⟨q.D, 2, none⟩)) [13, 11, 10, 9, 7] rfl (by kernel_rfl) (by kernel_rfl) (by kernel_rfl) (by kernel_rfl) (fun _ _ _ h => calm_panic h) rfl ?_ q1 ?_
                  · intro Z hZ; go_simp
                  simp only [Act.put, List.setIfInBounds_toArray, List.set_cons_zero, List.set_cons_succ]
                  refine takeL (i := 7) (oi := { dst := some 88, op := Go.Op.load 40 (Go.Operand.tmp 87), type := 40, pos := "ref.go:155", after := #[{ on := 6, ground := Go.Ground.data }], guard := none }) (v := .slice (some ⟨g, 0, none⟩) N c0) [13, 11, 10, 9] rfl (by kernel_rfl) (by kernel_rfl) (by kernel_rfl) (by kernel_rfl) (fun _ _ _ h => calm_panic h) rfl ?_ q1 ?_
                  · intro Z hZ; obtain ⟨z1, z2, z3⟩ := hZ; go_simp
                  simp only [Act.put, List.setIfInBounds_toArray, List.set_cons_zero, List.set_cons_succ]
                  refine takeL (i := 8) (oi := { dst := some 89, op := Go.Op.move (Go.Operand.tmp 5), type := 3, pos := "ref.go:155", after := #[], guard := none }) (v := .int .i64 (k : Int)) [13, 11, 10, 9] rfl (by kernel_rfl) (by kernel_rfl) (by kernel_rfl) (by kernel_rfl) (fun _ _ _ h => calm_panic h) rfl ?_ q1 ?_
                  · intro Z hZ; go_simp
                  simp only [Act.put, List.setIfInBounds_toArray, List.set_cons_zero, List.set_cons_succ]
                  refine takeL (i := 9) (oi := { dst := some 90, op := Go.Op.indexAddr 40 (Go.Operand.tmp 88) (Go.Operand.tmp 89), type := 0, pos := "ref.go:155", after := #[{ on := 7, ground := Go.Ground.data }, { on := 8, ground := Go.Ground.data }], guard := none }) (v := .pointer (some ⟨g, k * 2, none⟩)) [13, 11, 10] rfl (by kernel_rfl) (by kernel_rfl) (by kernel_rfl) (by kernel_rfl) (fun _ _ _ h => calm_panic h) rfl ?_ q1 ?_
                  · intro Z hZ; go_simp
                  simp only [Act.put, List.setIfInBounds_toArray, List.set_cons_zero, List.set_cons_succ]
                  refine takeL (i := 10) (oi := { dst := some 91, op := Go.Op.fieldAddr 47 (Go.Operand.tmp 90) 0, type := 0, pos := "ref.go:155", after := #[{ on := 9, ground := Go.Ground.data }], guard := none }) (v := .pointer (some ⟨g, k * 2, none⟩)) [13, 11] rfl (by kernel_rfl) (by kernel_rfl) (by kernel_rfl) (by kernel_rfl) (fun _ _ _ h => calm_panic h) rfl ?_ q1 ?_
                  · intro Z hZ; go_simp
                  simp only [Act.put, List.setIfInBounds_toArray, List.set_cons_zero, List.set_cons_succ]
                  refine takeL (i := 11) (oi := { dst := some 92, op := Go.Op.load 3 (Go.Operand.tmp 91), type := 3, pos := "ref.go:155", after := #[{ on := 10, ground := Go.Ground.data }], guard := none }) (v := .int .i64 (n : Int)) [13] rfl (by kernel_rfl) (by kernel_rfl) (by kernel_rfl) (by kernel_rfl) (fun _ _ _ h => calm_panic h) rfl ?_ q1 ?_
                  · intro Z hZ; obtain ⟨z1, z2, z3⟩ := hZ; go_simp
                  simp only [Act.put, List.setIfInBounds_toArray, List.set_cons_zero, List.set_cons_succ]
                  refine takeL (i := 12) (oi := { dst := some 93, op := Go.Op.move (Go.Operand.tmp 7), type := 32, pos := "ref.go:155", after := #[], guard := none }) (v := .slice (some ⟨g1, 0, none⟩) v28 cp1) [13] rfl (by kernel_rfl) (by kernel_rfl) (by kernel_rfl) (by kernel_rfl) (fun _ _ _ h => calm_panic h) rfl ?_ q1 ?_
                  · intro Z hZ; go_simp
                  simp only [Act.put, List.setIfInBounds_toArray, List.set_cons_zero, List.set_cons_succ]
                  refine oneL (i := 13) (o := { dst := none, op := Go.Op.mapUpdate 39 (Go.Operand.tmp 84) (Go.Operand.tmp 92) (Go.Operand.tmp 93), type := 0, pos := "ref.go:155", after := #[{ on := 3, ground := Go.Ground.data }, { on := 11, ground := Go.Ground.data }, { on := 12, ground := Go.Ground.data }, { on := 0, ground := Go.Ground.phase }, { on := 1, ground := Go.Ground.phase }, { on := 2, ground := Go.Ground.phase }, { on := 3, ground := Go.Ground.phase }, { on := 4, ground := Go.Ground.phase }, { on := 5, ground := Go.Ground.phase }, { on := 6, ground := Go.Ground.phase }, { on := 7, ground := Go.Ground.phase }, { on := 8, ground := Go.Ground.phase }, { on := 9, ground := Go.Ground.phase }, { on := 10, ground := Go.Ground.phase }, { on := 11, ground := Go.Ground.phase }, { on := 12, ground := Go.Ground.phase }], guard := none }) rfl (by kernel_rfl) rfl ?_
                  refine wp_by_skip (w' := W') (exec_mapU rfl rfl rfl rfl HU.out) ⟨fun h => absurd rfl h, ?_⟩
                  simp only [Act.put, List.setIfInBounds_toArray, List.set_cons_zero, List.set_cons_succ]
                  refine doneL (by kernel_rfl) (Calm.normal ?_) _
                  have wk := HWK.out
                  go_wp2
                  go_roundw
                  case rel => exact ⟨k + 1, by first | rfl | rw [wk], HLT.out, HREL.out⟩
                  case measure => exact meas_succ HLT.out wk
                · have j1 : ¬ ((j : Int) < 128) := by omega
                  clear j128
                  go_wp2_with fail
                  refine regionL (fun Z : World => Z.cell? ⟨q.D, 1, none⟩ = some (.map (some q.M)) ∧ Z.cell? ⟨q.D, 2, none⟩ = some (.slice (some ⟨g, 0, none⟩) N c0) ∧ Z.cell? ⟨g, k * 2, none⟩ = some (.int .i64 (n : Int))) 13 (by kernel_rfl) ?_
                  refine takeL (i := 0) (oi := { dst := some 81, op := Go.Op.move (Go.Operand.tmp 0), type := 28, pos := "ref.go:155", after := #[], guard := none }) (v := .pointer (some ⟨q.D, 0, none⟩)) [13, 3, 2, 1] rfl (by kernel_rfl) (by kernel_rfl) (by kernel_rfl) (by kernel_rfl) (fun _ _ _ h => calm_panic h) rfl ?_ q1 ?_
                  · intro Z hZ; go_simp
                  simp only [Act.put, List.setIfInBounds_toArray, List.set_cons_zero, List.set_cons_succ]
                  refine takeL (i := 1) (oi := { dst := some 82, op := Go.Op.nilCheck (Go.Operand.tmp 81), type := 0, pos := "ref.go:155", after := #[{ on := 0, ground := Go.Ground.data }], guard := none }) (v := .pointer (some ⟨q.D, 0, none⟩)) [13, 3, 2] rfl (by kernel_rfl) (by kernel_rfl) (by kernel_rfl) (by kernel_rfl) (fun _ _ _ h => calm_panic h) rfl ?_ q1 ?_
                  · intro Z hZ; go_simp
                  simp only [Act.put, List.setIfInBounds_toArray, List.set_cons_zero, List.set_cons_succ]
                  refine takeL (i := 2) (oi := { dst := some 83, op := Go.Op.fieldAddr 42 (Go.Operand.tmp 82) 1, type := 0, pos := "ref.go:155", after := #[{ on := 1, ground := Go.Ground.data }], guard := none }) (v := .pointer (some ⟨q.D, 1, none⟩)) [13, 3] rfl (by kernel_rfl) (by kernel_rfl) (by kernel_rfl) (by kernel_rfl) (fun _ _ _ h => calm_panic h) rfl ?_ q1 ?_
                  · intro Z hZ; go_simp
                  simp only [Act.put, List.setIfInBounds_toArray, List.set_cons_zero, List.set_cons_succ]
                  refine takeL (i := 3) (oi := { dst := some 84, op := Go.Op.load 39 (Go.Operand.tmp 83), type := 39, pos := "ref.go:155", after := #[{ on := 2, ground := Go.Ground.data }], guard := none }) (v := .map (some q.M)) [13] rfl (by kernel_rfl) (by kernel_rfl) (by kernel_rfl) (by kernel_rfl) (fun _ _ _ h => calm_panic h) rfl ?_ q1 ?_
                  · intro Z hZ; obtain ⟨z1, z2, z3⟩ := hZ; go_simp
                  simp only [Act.put, List.setIfInBounds_toArray, List.set_cons_zero, List.set_cons_succ]
                  refine takeL (i := 4) (oi := { dst := some 85, op := Go.Op.move (Go.Operand.tmp 0), type := 28, pos := "ref.go:155", after := #[], guard := none }) (v := .pointer (some ⟨q.D, 0, none⟩)) [13, 11, 10, 9, 7, 6, 5] rfl (by kernel_rfl) (by kernel_rfl) (by kernel_rfl) (by kernel_rfl) (fun _ _ _ h => calm_panic h) rfl ?_ q1 ?_
                  · intro Z hZ; go_simp
                  simp only [Act.put, List.setIfInBounds_toArray, List.set_cons_zero, List.set_cons_succ]
                  refine takeL (i := 5) (oi := { dst := some 86, op := Go.Op.nilCheck (Go.Operand.tmp 85), type := 0, pos := "ref.go:155", after := #[{ on := 4, ground := Go.Ground.data }], guard := none }) (v := .pointer (some ⟨q.D, 0, none⟩)) [13, 11, 10, 9, 7, 6] rfl (by kernel_rfl) (by kernel_rfl) (by kernel_rfl) (by kernel_rfl) (fun _ _ _ h => calm_panic h) rfl ?_ q1 ?_
                  · intro Z hZ; go_simp
                  simp only [Act.put, List.setIfInBounds_toArray, List.set_cons_zero, List.set_cons_succ]
                  refine takeL (i := 6) (oi := { dst := some 87, op := Go.Op.fieldAddr 42 (Go.Operand.tmp 86) 2, type := 0, pos := "ref.go:155", after := #[{ on := 5, ground := Go.Ground.data }], guard := none }) (v := .pointer (some ⟨q.D, 2, none⟩)) [13, 11, 10, 9, 7] rfl (by kernel_rfl) (by kernel_rfl) (by kernel_rfl) (by kernel_rfl) (fun _ _ _ h => calm_panic h) rfl ?_ q1 ?_
                  · intro Z hZ; go_simp
                  simp only [Act.put, List.setIfInBounds_toArray, List.set_cons_zero, List.set_cons_succ]
                  refine takeL (i := 7) (oi := { dst := some 88, op := Go.Op.load 40 (Go.Operand.tmp 87), type := 40, pos := "ref.go:155", after := #[{ on := 6, ground := Go.Ground.data }], guard := none }) (v := .slice (some ⟨g, 0, none⟩) N c0) [13, 11, 10, 9] rfl (by kernel_rfl) (by kernel_rfl) (by kernel_rfl) (by kernel_rfl) (fun _ _ _ h => calm_panic h) rfl ?_ q1 ?_
                  · intro Z hZ; obtain ⟨z1, z2, z3⟩ := hZ; go_simp
                  simp only [Act.put, List.setIfInBounds_toArray, List.set_cons_zero, List.set_cons_succ]
                  refine takeL (i := 8) (oi := { dst := some 89, op := Go.Op.move (Go.Operand.tmp 5), type := 3, pos := "ref.go:155", after := #[], guard := none }) (v := .int .i64 (k : Int)) [13, 11, 10, 9] rfl (by kernel_rfl) (by kernel_rfl) (by kernel_rfl) (by kernel_rfl) (fun _ _ _ h => calm_panic h) rfl ?_ q1 ?_
                  · intro Z hZ; go_simp
                  simp only [Act.put, List.setIfInBounds_toArray, List.set_cons_zero, List.set_cons_succ]
                  refine takeL (i := 9) (oi := { dst := some 90, op := Go.Op.indexAddr 40 (Go.Operand.tmp 88) (Go.Operand.tmp 89), type := 0, pos := "ref.go:155", after := #[{ on := 7, ground := Go.Ground.data }, { on := 8, ground := Go.Ground.data }], guard := none }) (v := .pointer (some ⟨g, k * 2, none⟩)) [13, 11, 10] rfl (by kernel_rfl) (by kernel_rfl) (by kernel_rfl) (by kernel_rfl) (fun _ _ _ h => calm_panic h) rfl ?_ q1 ?_
                  · intro Z hZ; go_simp
                  simp only [Act.put, List.setIfInBounds_toArray, List.set_cons_zero, List.set_cons_succ]
                  refine takeL (i := 10) (oi := { dst := some 91, op := Go.Op.fieldAddr 47 (Go.Operand.tmp 90) 0, type := 0, pos := "ref.go:155", after := #[{ on := 9, ground := Go.Ground.data }], guard := none }) (v := .pointer (some ⟨g, k * 2, none⟩)) [13, 11] rfl (by kernel_rfl) (by kernel_rfl) (by kernel_rfl) (by kernel_rfl) (fun _ _ _ h => calm_panic h) rfl ?_ q1 ?_
                  · intro Z hZ; go_simp
                  simp only [Act.put, List.setIfInBounds_toArray, List.set_cons_zero, List.set_cons_succ]
                  refine takeL (i := 11) (oi := { dst := some 92, op := Go.Op.load 3 (Go.Operand.tmp 91), type := 3, pos := "ref.go:155", after := #[{ on := 10, ground := Go.Ground.data }], guard := none }) (v := .int .i64 (n : Int)) [13] rfl (by kernel_rfl) (by kernel_rfl) (by kernel_rfl) (by kernel_rfl) (fun _ _ _ h => calm_panic h) rfl ?_ q1 ?_
                  · intro Z hZ; obtain ⟨z1, z2, z3⟩ := hZ; go_simp
                  simp only [Act.put, List.setIfInBounds_toArray, List.set_cons_zero, List.set_cons_succ]
                  refine takeL (i := 12) (oi := { dst := some 93, op := Go.Op.move (Go.Operand.tmp 7), type := 32, pos := "ref.go:155", after := #[], guard := none }) (v := .slice (some ⟨g1, 0, none⟩) v28 cp1) [13] rfl (by kernel_rfl) (by kernel_rfl) (by kernel_rfl) (by kernel_rfl) (fun _ _ _ h => calm_panic h) rfl ?_ q1 ?_
                  · intro Z hZ; go_simp
                  simp only [Act.put, List.setIfInBounds_toArray, List.set_cons_zero, List.set_cons_succ]
                  refine oneL (i := 13) (o := { dst := none, op := Go.Op.mapUpdate 39 (Go.Operand.tmp 84) (Go.Operand.tmp 92) (Go.Operand.tmp 93), type := 0, pos := "ref.go:155", after := #[{ on := 3, ground := Go.Ground.data }, { on := 11, ground := Go.Ground.data }, { on := 12, ground := Go.Ground.data }, { on := 0, ground := Go.Ground.phase }, { on := 1, ground := Go.Ground.phase }, { on := 2, ground := Go.Ground.phase }, { on := 3, ground := Go.Ground.phase }, { on := 4, ground := Go.Ground.phase }, { on := 5, ground := Go.Ground.phase }, { on := 6, ground := Go.Ground.phase }, { on := 7, ground := Go.Ground.phase }, { on := 8, ground := Go.Ground.phase }, { on := 9, ground := Go.Ground.phase }, { on := 10, ground := Go.Ground.phase }, { on := 11, ground := Go.Ground.phase }, { on := 12, ground := Go.Ground.phase }], guard := none }) rfl (by kernel_rfl) rfl ?_
                  refine wp_by_skip (w' := W') (exec_mapU rfl rfl rfl rfl HU.out) ⟨fun h => absurd rfl h, ?_⟩
                  simp only [Act.put, List.setIfInBounds_toArray, List.set_cons_zero, List.set_cons_succ]
                  refine doneL (by kernel_rfl) (Calm.normal ?_) _
                  have wk := HWK.out
                  go_wp2
                  go_roundw
                  case rel => exact ⟨k + 1, by first | rfl | rw [wk], HLT.out, HREL.out⟩
                  case measure => exact meas_succ HLT.out wk
          · have HM := Lib.hid (show ∀ j : Nat, j < 128 → ((j : Int) < 0 ↔ j < lk) from by rw [← HLK.out, ← HLN.out]; exact fun j hj => leftN_in (.inr (.inr ⟨(fun z => absurd (show ((k : Int) == t) = false by assumption) (by rw [z]; simp)), rfl, leftN_out HQ8.out HH1.out (show ((k : Int) == t) = false by assumption)⟩)) j hj)
            refine HA.out.mono ?_
            rintro e w1 ⟨v1, rfl, hO1, hB1⟩
            have HO1 := Lib.hid hO1
            have HB1 := Lib.hid hB1
            clear hO1 hB1
            obtain ⟨a1, cp1, hv1⟩ := HO1.out.form
            rw [HATL.out] at hv1
            obtain ⟨g1, rfl, hg1, hg1'⟩ := (show Own8 wo.heap.size w1 (.slice a1 128 cp1) ((d.part LN k).at n) by rw [← hv1]; exact HO1.out).at_ (by decide)
            subst hv1
            obtain ⟨v28, hv28⟩ : ∃ v28, (128 : Nat) = v28 := ⟨_, rfl⟩
            have HV28 := Lib.hid hv28
            rw [hv28] at HO1 ⊢
            clear hv28
            go_wp2_with fail
            go_loopw [8] (fun i w2 => ∃ j : Nat, i = .int .i64 (j : Int) ∧ j ≤ lk ∧ Own8 wo.heap.size w2 (.slice (some ⟨g1, 0, none⟩) v28 cp1) (L0.take j ++ ((d.part LN k).at n).drop j) ∧ Below wo.heap.size wo w2) (fun i _ => (128 - intOf i).toNat)
            case atStart => exact ⟨0, rfl, Nat.zero_le _, by rw [List.take_zero, List.nil_append, List.drop_zero]; exact HO1.out, HB1.out⟩
            case round =>
              obtain ⟨j, rfl, hj, hO, hB2⟩ := hrel
              clear c1 hc2 HO1 HB1
              have w2c : wr.cell? ⟨q.D, 2, none⟩ = some (.slice (some ⟨g, 0, none⟩) N c0) := by rw [← HV0.out]; exact (HR.out.below hB2).dev.cell 2
              have j0 : (0 : Int) ≤ (j : Int) := Int.natCast_nonneg j
              by_cases hjl : j < lk
              · have h128 : j < 128 := by have := HLK8.out; omega
                exact absurd ((HM.out j h128).2 hjl) (by omega)
              · have hjk : j = lk := by omega
                subst hjk
                have hL8 := HLK8.out
                have hO' := hO
                rw [← HV28.out] at hO'
                have hX := (HR.out.below hB2).drew
                obtain ⟨W', hr, hR', hu'⟩ := ref_store hX (by show q.u + k < _; have := HNL.out; have := HLT.out; have := HU0.out; omega) n HP2.out _ _ (hO'.le (Nat.zero_le _)) (off_fresh HR.out hO') (mix_len HSL.out HSO.out j hL8)
                rw [HV28.out] at hr
                replace hr : (Instr.mapUpdate 39 (.map (some q.M)) (.int .i64 (n : Int)) (.slice (some ⟨g1, 0, none⟩) v28 cp1)).run Try.prog wr.drew = .ok () W' := hr
                have HU := Lib.hid hr
                have uAll : Upd (rown q) wo W' := (Upd.of hB2 _).drew.trans hu' (fun j e => .inl e)
                have HREL := Lib.hid (show RefAt W' { q with u := q.u + (k + 1) } (d.part LN (k + 1)) ∧ Upd (rown q) w W' ∧ At 34 W' CB #[.slice a K.length c, .int .i64 t, .int .i64 x] ∧ Bys8 CB W' (.slice a K.length c) K from
                  ⟨by rw [HP.out, HLK.out]; exact hR', HB.out.trans uAll (fun j e => .inl e), HC.out.upd uAll HNR.out, bys8_upd HKB.out uAll (Nat.le_of_lt HCBL.out) HKA.out⟩)
                have q1 : (fun Z : World => Z.cell? ⟨q.D, 1, none⟩ = some (.map (some q.M)) ∧ Z.cell? ⟨q.D, 2, none⟩ = some (.slice (some ⟨g, 0, none⟩) N c0) ∧ Z.cell? ⟨g, k * 2, none⟩ = some (.int .i64 (n : Int))) wr.drew := ⟨hX.dev.cell 1, w2c, (hB2.cell (p := ⟨g, k * 2, none⟩) HG.out).trans HE0.out⟩
                have HJM := Lib.hid (fun (h : j < 128) => (show ¬ ((j : Int) < 0) from fun q => Nat.lt_irrefl _ ((HM.out j h).1 q)))
                clear hj hO hO' hB2 hjl hr hR' hu' uAll hX w2c hL8
                by_cases j128 : j < 128
                · have j1 : (j : Int) < 128 := by omega
                  have j2 := HJM.out j128
                  clear j128
                  go_wp2_with fail
                  refine regionL (fun Z : World => Z.cell? ⟨q.D, 1, none⟩ = some (.map (some q.M)) ∧ Z.cell? ⟨q.D, 2, none⟩ = some (.slice (some ⟨g, 0, none⟩) N c0) ∧ Z.cell? ⟨g, k * 2, none⟩ = some (.int .i64 (n : Int))) 13 (by kernel_rfl) ?_
                  refine takeL (i := 0) (oi := { dst := some 81, op := Go.Op.move (Go.Operand.tmp 0), type := 28, pos := "ref.go:155", after := #[], guard := none }) (v := .pointer (some ⟨q.D, 0, none⟩)) [13, 3, 2, 1] rfl (by kernel_rfl) (by kernel_rfl) (by kernel_rfl) (by kernel_rfl) (fun _ _ _ h => calm_panic h) rfl ?_ q1 ?_
                  · intro Z hZ; go_simp
                  simp only [Act.put, List.setIfInBounds_toArray, List.set_cons_zero, List.set_cons_succ]
                  refine takeL (i := 1) (oi := { dst := some 82, op := Go.Op.nilCheck (Go.Operand.tmp 81), type := 0, pos := "ref.go:155", after := #[{ on := 0, ground := Go.Ground.data }], guard := none }) (v := .pointer (some ⟨q.D, 0, none⟩)) [13, 3, 2] rfl (by kernel_rfl) (by kernel_rfl) (by kernel_rfl) (by kernel_rfl) (fun _ _ _ h => calm_panic h) rfl ?_ q1 ?_
                  · intro Z hZ; go_simp
                  simp only [Act.put, List.setIfInBounds_toArray, List.set_cons_zero, List.set_cons_succ]
                  refine takeL (i := 2) (oi := { dst := some 83, op := Go.Op.fieldAddr 42 (Go.Operand.tmp 82) 1, type := 0, pos := "ref.go:155", after := #[{ on := 1, ground := Go.Ground.data }], guard := none }) (v := .pointer (some ⟨q.D, 1, none⟩)) [13, 3] rfl (by kernel_rfl) (by kernel_rfl) (by kernel_rfl) (by kernel_rfl) (fun _ _ _ h => calm_panic h) rfl ?_ q1 ?_
                  · intro Z hZ; go_simp
                  simp only [Act.put, List.setIfInBounds_toArray, List.set_cons_zero, List.set_cons_succ]
                  refine takeL (i := 3) (oi := { dst := some 84, op := Go.Op.load 39 (Go.Operand.tmp 83), type := 39, pos := "ref.go:155", after := #[{ on := 2, ground := Go.Ground.data }], guard := none }) (v := .map (some q.M)) [13] rfl (by kernel_rfl) (by kernel_rfl) (by kernel_rfl) (by kernel_rfl) (fun _ _ _ h => calm_panic h) rfl ?_ q1 ?_
                  · intro Z hZ; obtain ⟨z1, z2, z3⟩ := hZ; go_simp
                  simp only [Act.put, List.setIfInBounds_toArray, List.set_cons_zero, List.set_cons_succ]
                  refine takeL (i := 4) (oi := { dst := some 85, op := Go.Op.move (Go.Operand.tmp 0), type := 28, pos := "ref.go:155", after := #[], guard := none }) (v := .pointer (some ⟨q.D, 0, none⟩)) [13, 11, 10, 9, 7, 6, 5] rfl (by kernel_rfl) (by kernel_rfl) (by kernel_rfl) (by kernel_rfl) (fun _ _ _ h => calm_panic h) rfl ?_ q1 ?_
                  · intro Z hZ; go_simp
                  simp only [Act.put, List.setIfInBounds_toArray, List.set_cons_zero, List.set_cons_succ]
                  refine takeL (i := 5) (oi := { dst := some 86, op := Go.Op.nilCheck (Go.Operand.tmp 85), type := 0, pos := "ref.go:155", after := #[{ on := 4, ground := Go.Ground.data }], guard := none }) (v := .pointer (some ⟨q.D, 0, none⟩)) [13, 11, 10, 9, 7, 6] rfl (by kernel_rfl) (by kernel_rfl) (by kernel_rfl) (by kernel_rfl) (fun _ _ _ h => calm_panic h) rfl ?_ q1 ?_
                  · intro Z hZ; go_simp
                  simp only [Act.put, List.setIfInBounds_toArray, List.set_cons_zero, List.set_cons_succ]
                  refine takeL (i := 6) (oi := { dst := some 87, op := Go.Op.fieldAddr 42 (Go.Operand.tmp 86) 2, type := 0, pos := "ref.go:155", after := #[{ on := 5, ground := Go.Ground.data }], guard := none }) (v := .pointer (some ⟨q.D, 2, none⟩)) [13, 11, 10, 9, 7] rfl (by kernel_rfl) (by kernel_rfl) (by kernel_rfl) (by kernel_rfl) (fun _ _ _ h => calm_panic h) rfl ?_ q1 ?_
                  · intro Z hZ; go_simp
                  simp only [Act.put, List.setIfInBounds_toArray, List.set_cons_zero, List.set_cons_succ]
                  refine takeL (i := 7) (oi := { dst := some 88, op := Go.Op.load 40 (Go.Operand.tmp 87), type := 40, pos := "ref.go:155", after := #[{ on := 6, ground := Go.Ground.data }], guard := none }) (v := .slice (some ⟨g, 0, none⟩) N c0) [13, 11, 10, 9] rfl (by kernel_rfl) (by kernel_rfl) (by kernel_rfl) (by kernel_rfl) (fun _ _ _ h => calm_panic h) rfl ?_ q1 ?_
                  · intro Z hZ; obtain ⟨z1, z2, z3⟩ := hZ; go_simp
                  simp only [Act.put, List.setIfInBounds_toArray, List.set_cons_zero, List.set_cons_succ]
                  refine takeL (i := 8) (oi := { dst := some 89, op := Go.Op.move (Go.Operand.tmp 5), type := 3, pos := "ref.go:155", after := #[], guard := none }) (v := .int .i64 (k : Int)) [13, 11, 10, 9] rfl (by kernel_rfl) (by kernel_rfl) (by kernel_rfl) (by kernel_rfl) (fun _ _ _ h => calm_panic h) rfl ?_ q1 ?_
                  · intro Z hZ; go_simp
                  simp only [Act.put, List.setIfInBounds_toArray, List.set_cons_zero, List.set_cons_succ]
                  refine takeL (i := 9) (oi := { dst := some 90, op := Go.Op.indexAddr 40 (Go.Operand.tmp 88) (Go.Operand.tmp 89), type := 0, pos := "ref.go:155", after := #[{ on := 7, ground := Go.Ground.data }, { on := 8, ground := Go.Ground.data }], guard := none }) (v := .pointer (some ⟨g, k * 2, none⟩)) [13, 11, 10] rfl (by kernel_rfl) (by kernel_rfl) (by kernel_rfl) (by kernel_rfl) (fun _ _ _ h => calm_panic h) rfl ?_ q1 ?_
                  · intro Z hZ; go_simp
                  simp only [Act.put, List.setIfInBounds_toArray, List.set_cons_zero, List.set_cons_succ]
                  refine takeL (i := 10) (oi := { dst := some 91, op := Go.Op.fieldAddr 47 (Go.Operand.tmp 90) 0, type := 0, pos := "ref.go:155", after := #[{ on := 9, ground := Go.Ground.data }], guard := none }) (v := .pointer (some ⟨g, k * 2, none⟩)) [13, 11] rfl (by kernel_rfl) (by kernel_rfl) (by kernel_rfl) (by kernel_rfl) (fun _ _ _ h => calm_panic h) rfl ?_ q1 ?_
                  · intro Z hZ; go_simp
                  simp only [Act.put, List.setIfInBounds_toArray, List.set_cons_zero, List.set_cons_succ]
                  refine takeL (i := 11) (oi := { dst := some 92, op := Go.Op.load 3 (Go.Operand.tmp 91), type := 3, pos := "ref.go:155", after := #[{ on := 10, ground := Go.Ground.data }], guard := none }) (v := .int .i64 (n : Int)) [13] rfl (by kernel_rfl) (by kernel_rfl) (by kernel_rfl) (by kernel_rfl) (fun _ _ _ h => calm_panic h) rfl ?_ q1 ?_
                  · intro Z hZ; obtain ⟨z1, z2, z3⟩ := hZ; go_simp
                  simp only [Act.put, List.setIfInBounds_toArray, List.set_cons_zero, List.set_cons_succ]
                  refine takeL (i := 12) (oi := { dst := some 93, op := Go.Op.move (Go.Operand.tmp 7), type := 32, pos := "ref.go:155", after := #[], guard := none }) (v := .slice (some ⟨g1, 0, none⟩) v28 cp1) [13] rfl (by kernel_rfl) (by kernel_rfl) (by kernel_rfl) (by kernel_rfl) (fun _ _ _ h => calm_panic h) rfl ?_ q1 ?_
                  · intro Z hZ; go_simp
                  simp only [Act.put, List.setIfInBounds_toArray, List.set_cons_zero, List.set_cons_succ]
                  refine oneL (i := 13) (o := { dst := none, op := Go.Op.mapUpdate 39 (Go.Operand.tmp 84) (Go.Operand.tmp 92) (Go.Operand.tmp 93), type := 0, pos := "ref.go:155", after := #[{ on := 3, ground := Go.Ground.data }, { on := 11, ground := Go.Ground.data }, { on := 12, ground := Go.Ground.data }, { on := 0, ground := Go.Ground.phase }, { on := 1, ground := Go.Ground.phase }, { on := 2, ground := Go.Ground.phase }, { on := 3, ground := Go.Ground.phase }, { on := 4, ground := Go.Ground.phase }, { on := 5, ground := Go.Ground.phase }, { on := 6, ground := Go.Ground.phase }, { on := 7, ground := Go.Ground.phase }, { on := 8, ground := Go.Ground.phase }, { on := 9, ground := Go.Ground.phase }, { on := 10, ground := Go.Ground.phase }, { on := 11, ground := Go.Ground.phase }, { on := 12, ground := Go.Ground.phase }], guard := none }) rfl (by kernel_rfl) rfl ?_
                  refine wp_by_skip (w' := W') (exec_mapU rfl rfl rfl rfl HU.out) ⟨fun h => absurd rfl h, ?_⟩
                  simp only [Act.put, List.setIfInBounds_toArray, List.set_cons_zero, List.set_cons_succ]
                  refine doneL (by kernel_rfl) (Calm.normal ?_) _
                  have wk := HWK.out
                  go_wp2
                  go_roundw
                  case rel => exact ⟨k + 1, by first | rfl | rw [wk], HLT.out, HREL.out⟩
                  case measure => exact meas_succ HLT.out wk
                · have j1 : ¬ ((j : Int) < 128) := by omega
                  clear j128
                  go_wp2_with fail
                  refine regionL (fun Z : World => Z.cell? ⟨q.D, 1, none⟩ = some (.map (some q.M)) ∧ Z.cell? ⟨q.D, 2, none⟩ = some (.slice (some ⟨g, 0, none⟩) N c0) ∧ Z.cell? ⟨g, k * 2, none⟩ = some (.int .i64 (n : Int))) 13 (by kernel_rfl) ?_
                  refine takeL (i := 0) (oi := { dst := some 81, op := Go.Op.move (Go.Operand.tmp 0), type := 28, pos := "ref.go:155", after := #[], guard := none }) (v := .pointer (some ⟨q.D, 0, none⟩)) [13, 3, 2, 1] rfl (by kernel_rfl) (by kernel_rfl) (by kernel_rfl) (by kernel_rfl) (fun _ _ _ h => calm_panic h) rfl ?_ q1 ?_
                  · intro Z hZ; go_simp
                  simp only [Act.put, List.setIfInBounds_toArray, List.set_cons_zero, List.set_cons_succ]
                  refine takeL (i := 1) (oi := { dst := some 82, op := Go.Op.nilCheck (Go.Operand.tmp 81), type := 0, pos := "ref.go:155", after := #[{ on := 0, ground := Go.Ground.data }], guard := none }) (v := .pointer (some ⟨q.D, 0, none⟩)) [13, 3, 2] rfl (by kernel_rfl) (by kernel_rfl) (by kernel_rfl) (by kernel_rfl) (fun _ _ _ h => calm_panic h) rfl ?_ q1 ?_
                  · intro Z hZ; go_simp
                  simp only [Act.put, List.setIfInBounds_toArray, List.set_cons_zero, List.set_cons_succ]
                  refine takeL (i := 2) (oi := { dst := some 83, op := Go.Op.fieldAddr 42 (Go.Operand.tmp 82) 1, type := 0, pos := "ref.go:155", after := #[{ on := 1, ground := Go.Ground.data }], guard := none }) (v := .pointer (some ⟨q.D, 1, none⟩)) [13, 3] rfl (by kernel_rfl) (by kernel_rfl) (by kernel_rfl) (by kernel_rfl) (fun _ _ _ h => calm_panic h) rfl ?_ q1 ?_
                  · intro Z hZ; go_simp
                  simp only [Act.put, List.setIfInBounds_toArray, List.set_cons_zero, List.set_cons_succ]
                  refine takeL (i := 3) (oi := { dst := some 84, op := Go.Op.load 39 (Go.Operand.tmp 83), type := 39, pos := "ref.go:155", after := #[{ on := 2, ground := Go.Ground.data }], guard := none }) (v := .map (some q.M)) [13] rfl (by kernel_rfl) (by kernel_rfl) (by kernel_rfl) (by kernel_rfl) (fun _ _ _ h => calm_panic h) rfl ?_ q1 ?_
                  · intro Z hZ; obtain ⟨z1, z2, z3⟩ := hZ; go_simp
                  simp only [Act.put, List.setIfInBounds_toArray, List.set_cons_zero, List.set_cons_succ]
                  refine takeL (i := 4) (oi := { dst := some 85, op := Go.Op.move (Go.Operand.tmp 0), type := 28, pos := "ref.go:155", after := #[], guard := none }) (v := .pointer (some ⟨q.D, 0, none⟩)) [13, 11, 10, 9, 7, 6, 5] rfl (by kernel_rfl) (by kernel_rfl) (by kernel_rfl) (by kernel_rfl) (fun _ _ _ h => calm_panic h) rfl ?_ q1 ?_
                  · intro Z hZ; go_simp
                  simp only [Act.put, List.setIfInBounds_toArray, List.set_cons_zero, List.set_cons_succ]
                  refine takeL (i := 5) (oi := { dst := some 86, op := Go.Op.nilCheck (Go.Operand.tmp 85), type := 0, pos := "ref.go:155", after := #[{ on := 4, ground := Go.Ground.data }], guard := none }) (v := .pointer (some ⟨q.D, 0, none⟩)) [13, 11, 10, 9, 7, 6] rfl (by kernel_rfl) (by kernel_rfl) (by kernel_rfl) (by kernel_rfl) (fun _ _ _ h => calm_panic h) rfl ?_ q1 ?_
                  · intro Z hZ; go_simp
                  simp only [Act.put, List.setIfInBounds_toArray, List.set_cons_zero, List.set_cons_succ]
                  refine takeL (i := 6) (oi := { dst := some 87, op := Go.Op.fieldAddr 42 (Go.Operand.tmp 86) 2, type := 0, pos := "ref.go:155", after := #[{ on := 5, ground := Go.Ground.data }], guard := none }) (v := .pointer (some ⟨q.D, 2, none⟩)) [13, 11, 10, 9, 7] rfl (by kernel_rfl) (by kernel_rfl) (by kernel_rfl) (by kernel_rfl) (fun _ _ _ h => calm_panic h) rfl ?_ q1 ?_
                  · intro Z hZ; go_simp
                  simp only [Act.put, List.setIfInBounds_toArray, List.set_cons_zero, List.set_cons_succ]
                  refine takeL (i := 7) (oi := { dst := some 88, op := Go.Op.load 40 (Go.Operand.tmp 87), type := 40, pos := "ref.go:155", after := #[{ on := 6, ground := Go.Ground.data }], guard := none }) (v := .slice (some ⟨g, 0, none⟩) N c0) [13, 11, 10, 9] rfl (by kernel_rfl) (by kernel_rfl) (by kernel_rfl) (by kernel_rfl) (fun _ _ _ h => calm_panic h) rfl ?_ q1 ?_
                  · intro Z hZ; obtain ⟨z1, z2, z3⟩ := hZ; go_simp
                  simp only [Act.put, List.setIfInBounds_toArray, List.set_cons_zero, List.set_cons_succ]
                  refine takeL (i := 8) (oi := { dst := some 89, op := Go.Op.move (Go.Operand.tmp 5), type := 3, pos := "ref.go:155", after := #[], guard := none }) (v := .int .i64 (k : Int)) [13, 11, 10, 9] rfl (by kernel_rfl) (by kernel_rfl) (by kernel_rfl) (by kernel_rfl) (fun _ _ _ h => calm_panic h) rfl ?_ q1 ?_
                  · intro Z hZ; go_simp
                  simp only [Act.put, List.setIfInBounds_toArray, List.set_cons_zero, List.set_cons_succ]
                  refine takeL (i := 9) (oi := { dst := some 90, op := Go.Op.indexAddr 40 (Go.Operand.tmp 88) (Go.Operand.tmp 89), type := 0, pos := "ref.go:155", after := #[{ on := 7, ground := Go.Ground.data }, { on := 8, ground := Go.Ground.data }], guard := none }) (v := .pointer (some ⟨g, k * 2, none⟩)) [13, 11, 10] rfl (by kernel_rfl) (by kernel_rfl) (by kernel_rfl) (by kernel_rfl) (fun _ _ _ h => calm_panic h) rfl ?_ q1 ?_
                  · intro Z hZ; go_simp
                  simp only [Act.put, List.setIfInBounds_toArray, List.set_cons_zero, List.set_cons_succ]
                  refine takeL (i := 10) (oi := { dst := some 91, op := Go.Op.fieldAddr 47 (Go.Operand.tmp 90) 0, type := 0, pos := "ref.go:155", after := #[{ on := 9, ground := Go.Ground.data }], guard := none }) (v := .pointer (some ⟨g, k * 2, none⟩)) [13, 11] rfl (by kernel_rfl) (by kernel_rfl) (by kernel_rfl) (by kernel_rfl) (fun _ _ _ h => calm_panic h) rfl ?_ q1 ?_
                  · intro Z hZ; go_simp
                  simp only [Act.put, List.setIfInBounds_toArray, List.set_cons_zero, List.set_cons_succ]
                  refine takeL (i := 11) (oi := { dst := some 92, op := Go.Op.load 3 (Go.Operand.tmp 91), type := 3, pos := "ref.go:155", after := #[{ on := 10, ground := Go.Ground.data }], guard := none }) (v := .int .i64 (n : Int)) [13] rfl (by kernel_rfl) (by kernel_rfl) (by kernel_rfl) (by kernel_rfl) (fun _ _ _ h => calm_panic h) rfl ?_ q1 ?_
                  · intro Z hZ; obtain ⟨z1, z2, z3⟩ := hZ; go_simp
                  simp only [Act.put, List.setIfInBounds_toArray, List.set_cons_zero, List.set_cons_succ]
                  refine takeL (i := 12) (oi := { dst := some 93, op := Go.Op.move (Go.Operand.tmp 7), type := 32, pos := "ref.go:155", after := #[], guard := none }) (v := .slice (some ⟨g1, 0, none⟩) v28 cp1) [13] rfl (by kernel_rfl) (by kernel_rfl) (by kernel_rfl) (by kernel_rfl) (fun _ _ _ h => calm_panic h) rfl ?_ q1 ?_
                  · intro Z hZ; go_simp
                  simp only [Act.put, List.setIfInBounds_toArray, List.set_cons_zero, List.set_cons_succ]
                  refine oneL (i := 13) (o := { dst := none, op := Go.Op.mapUpdate 39 (Go.Operand.tmp 84) (Go.Operand.tmp 92) (Go.Operand.tmp 93), type := 0, pos := "ref.go:155", after := #[{ on := 3, ground := Go.Ground.data }, { on := 11, ground := Go.Ground.data }, { on := 12, ground := Go.Ground.data }, { on := 0, ground := Go.Ground.phase }, { on := 1, ground := Go.Ground.phase }, { on := 2, ground := Go.Ground.phase }, { on := 3, ground := Go.Ground.phase }, { on := 4, ground := Go.Ground.phase }, { on := 5, ground := Go.Ground.phase }, { on := 6, ground := Go.Ground.phase }, { on := 7, ground := Go.Ground.phase }, { on := 8, ground := Go.Ground.phase }, { on := 9, ground := Go.Ground.phase }, { on := 10, ground := Go.Ground.phase }, { on := 11, ground := Go.Ground.phase }, { on := 12, ground := Go.Ground.phase }], guard := none }) rfl (by kernel_rfl) rfl ?_
                  refine wp_by_skip (w' := W') (exec_mapU rfl rfl rfl rfl HU.out) ⟨fun h => absurd rfl h, ?_⟩
                  simp only [Act.put, List.setIfInBounds_toArray, List.set_cons_zero, List.set_cons_succ]
                  refine doneL (by kernel_rfl) (Calm.normal ?_) _
                  have wk := HWK.out
                  go_wp2
                  go_roundw
                  case rel => exact ⟨k + 1, by first | rfl | rw [wk], HLT.out, HREL.out⟩
                  case measure => exact meas_succ HLT.out wk
      · have hke : k = N := by omega
        subst hke
        have i1 : ¬ ((k : Int) < (k : Int)) := by omega
        have f2 := hR.dev.free 2
        have f3 := hR.dev.free 3
        have f4 := hR.dev.free 4
        have k3 : wo.cell? ⟨q.D, 3, none⟩ = some (.int .i64 (leftP (d.part LN k))) := hR.dev.cell 3
        have k4 : wo.cell? ⟨q.D, 4, none⟩ = some (.bool d.down) := hR.dev.cell 4
        have hu2 : Upd (fun j => j = q.D) wo (((wo.setCell ⟨q.D, 2, none⟩ nilV).setCell ⟨q.D, 4, none⟩ (.bool false)).setCell ⟨q.D, 3, none⟩ (.int .i64 0)) := (((Upd.refl (fun j => j = q.D) wo).setCell (p := ⟨q.D, 2, none⟩) (.inl rfl) _).setCell (p := ⟨q.D, 4, none⟩) (.inl rfl) _).setCell (p := ⟨q.D, 3, none⟩) (.inl rfl) _
        have eP : d.apply LN = { d.part LN k with cache := [] } := by rw [← part_end, HN.out]
        have ho := HOK.out.restart LN
        unfold Dv.restart at ho
        rw [if_pos HD.out] at ho
        have hE := ref_empty (e := { d.apply LN with frm := d.calls, num := 0, down := false }) hR hu2 (by rw [eP]; exact ((hR.dev.set 2 nilV).set 4 (.bool false)).set 3 (.int .i64 0)) (by rw [eP]) rfl ho
        have HX := Lib.hid (show ∃ q', RefAt (((wo.setCell ⟨q.D, 2, none⟩ nilV).setCell ⟨q.D, 4, none⟩ (.bool false)).setCell ⟨q.D, 3, none⟩ (.int .i64 0)) q' { d.apply LN with frm := d.calls, num := 0, down := false } ∧ RStep q q' w (((wo.setCell ⟨q.D, 2, none⟩ nilV).setCell ⟨q.D, 4, none⟩ (.bool false)).setCell ⟨q.D, 3, none⟩ (.int .i64 0)) from
          ⟨_, hE.1, rfl, hB.trans hu2 (fun j e => .inl (.inl e)), fun j hj => .inl (hE.2 j hj), by show q.u + k ≤ q.u + 256; have := HNL.out; omega⟩)
        clear hk hR hB hC hKb hlt hE hu2 eP ho wk
        go_wp2
        go_ret
        exact ⟨rfl, HX.out⟩
end Go.Proofs.Yteopbeafhhfdoaa
