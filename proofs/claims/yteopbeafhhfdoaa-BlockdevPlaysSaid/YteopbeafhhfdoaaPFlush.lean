/- The document's device: Flush. -/
import Derived.Test.YteopbeafhhfdoaaPMap
import Derived.RegionTactic
set_option linter.unusedVariables false
set_option linter.unusedSimpArgs false
namespace Go.Proofs.Yteopbeafhhfdoaa
open Go.RowKit Go.Maps
/-- The cache is emptied. -/
theorem ref_empty {w w' : World} {q : Rl} {d e : Dv} (h : RefAt w q d) (hu : Upd (fun k => k = q.D) w w') (hd : At 42 w' q.D #[.int .i64 e.safe.length, .map (some q.M), nilV, .int .i64 (leftP e), .bool e.down, .int .i64 e.calls])
    (hs : e.safe = d.safe) (hc : e.cache = []) (ho : e.Ok) : RefAt w' { q with vC := nilV, vs := [] } e ∧ (∀ k, rown { q with vC := nilV, vs := [] } k → rown q k) := by
  obtain ⟨a1, a2⟩ := h.apart
  have h8 : ∀ k cs fr, w.heap[k]? = some (.cells cs 5 fr) → ¬ q.G k → ¬ (k = q.D) := fun k cs fr hk _ e => h.not8 hk (.inl e)
  refine ⟨⟨hd, ?_, World.ownsRow_nil _ _ _ _, by show 0 = e.cache.length; rw [hc]; rfl, fun k a b => by simp at a, ho, fun k hk => Nat.lt_of_lt_of_le (h.low k hk) hu.size⟩, ?_⟩
  · rw [hs]; exact map_upd h.map hu (fun e => a1 e.symm) h8
  · rintro k (e | e | e)
    · exact .inl e
    · exact .inr (.inl e)
    · cases e
theorem part_flush {d : Dv} (h : d.Ok) (k : Nat) (hk : k < d.cache.length) : ∃ n : Nat, (d.cache[k]).1 = n ∧ n < (d.part (fun _ => 128) k).safe.length ∧ (d.cache[k]).2.length = 128 ∧ d.part (fun _ => 128) (k + 1) = { d.part (fun _ => 128) k with safe := (d.part (fun _ => 128) k).safe.set n (d.cache[k]).2 } := by
  obtain ⟨n, h1, h2, h3, h4⟩ := part_step h (fun _ => 128) k hk
  have hl : (d.cache[k]).2.length = 128 := (h.wr _ (List.getElem_mem hk)).2.2.1
  have hs : ∀ L ∈ (d.part (fun _ => 128) k).safe, Sec L := putAll_secs _ _ h.secs (fun y hy => by
    obtain ⟨m, j, _, _⟩ := applied_mem _ _ _ _ hy
    have := h.wr _ (List.mem_of_mem_take m)
    exact ⟨this.2.2, by omega⟩)
  have hz : ((d.part (fun _ => 128) k).safe.getD n []).length = 128 := (secs_get hs h2).1
  refine ⟨n, h1, h2, hl, ?_⟩
  rw [h4, List.take_of_length_le (by omega), List.drop_of_length_le (by omega), List.append_nil]
set_option maxRecDepth 100000 in
set_option maxHeartbeats 2000000 in
theorem rflush_any (q : Rl) (d : Dv) (w : World) (h : RefAt w q d) (hc : d.calls < 4611686018427387904) (hu : q.u < 900000000000) :
    Calls Try.prog 33 #[ptr q.D] w fun e w' => e = .returned (.int .i64 (flushE d)) ∧ ∃ q', RefAt w' q' d.flush ∧ RStep q q' w w' := by
  have hmx : Try.prog.follows .mixedOrders = true := by kernel_rfl
  have c4 : w.cell? ⟨q.D, 4, none⟩ = some (.bool d.down) := h.dev.cell 4
  unfold flushE Dv.flush
  cases hd : d.down
  · rw [hd] at c4
    have HC := Lib.hid (rcounts_any q d w h hd hc)
    rw [if_neg (by simp), if_neg (by simp)]
    cases hk : d.counted.down
    · rw [hk] at HC
      rw [if_neg (by simp)]
      have HU0 := Lib.hid hu
      obtain ⟨K, hK⟩ : ∃ K, d.counted.cache.length = K := ⟨_, rfl⟩
      have HK := Lib.hid hK
      clear h hd hk hc hu hK
      generalize d.counted = d1 at *
      go_enter Try.func33, Try.ntmps33
      go_wp2_with (refine HC.out.mono ?_; rintro e w1 ⟨rfl, h1, s1⟩; have H1 := Lib.hid h1; have S1 := Lib.hid s1; clear h1 s1)
      have HKL := Lib.hid (show K ≤ 256 by rw [← HK.out]; exact H1.out.ok.full)
      go_loopw [4] (fun i wr => ∃ k : Nat, i = .int .i64 (k : Int) ∧ k ≤ K ∧ RefAt wr { q with u := q.u + k } (d1.part (fun _ => 128) k) ∧ Upd (rown q) w wr) (fun i _ => (K - intOf i).toNat)
      case atStart => exact ⟨0, rfl, Nat.zero_le _, H1.out, S1.out.upd⟩
      case round =>
        obtain ⟨k, rfl, hk, hR, hB⟩ := hrel
        obtain ⟨a0, c0, hv0⟩ := rform hR
        rw [show (d1.part (fun _ => 128) k).cache.length = K from HK.out] at hv0
        replace hv0 : q.vC = .slice a0 K c0 := hv0
        have hc2 : wr.cell? ⟨q.D, 2, none⟩ = some (.slice a0 K c0) := by rw [← hv0]; exact hR.dev.cell 2
        have wk : wrap64 ((k : Int) + 1) = ((k + 1 : Nat) : Int) := wrap_succ (by have := HKL.out; omega)
        have hk0 : (0 : Int) ≤ (k : Int) := by omega
        by_cases hlt : k < K
        · have i1 : (k : Int) < (K : Int) := by omega
          obtain ⟨g, cap, v, hv, e0, e1, hO2, hOff⟩ := rcache_at hR k (by show k < d1.cache.length; rw [HK.out]; exact hlt)
          replace hv : q.vC = _ := hv
          rw [hv0, show (d1.part (fun _ => 128) k).cache.length = K from HK.out] at hv
          cases hv
          obtain ⟨n, p1, p2, p3, p4⟩ := part_flush H1.out.ok k (by rw [HK.out]; exact hlt)
          replace e0 : wr.cell? ⟨g, k * 2, none⟩ = some (.int .i64 (d1.cache[k]'(by rw [HK.out]; exact hlt)).1) := e0
          replace hO2 : Own8 0 wr v (d1.cache[k]'(by rw [HK.out]; exact hlt)).2 := hO2
          rw [p1] at e0
          have c1 : wr.cell? ⟨q.D, 1, none⟩ = some (.map (some q.M)) := hR.dev.cell 1
          obtain ⟨W', hr, hR', hu'⟩ := ref_store hR.drew (by show q.u + k < _; have := HKL.out; have := HU0.out; omega) n p2 v _ (show Own8 0 wr.drew v _ from hO2) hOff p3
          obtain ⟨va, vc, hva⟩ := hO2.form
          rw [p3] at hva
          obtain ⟨vl, hvl⟩ : ∃ vl, (128 : Nat) = vl := ⟨_, rfl⟩
          rw [hvl] at hva
          rw [hva] at e1 hr
          replace hr : (Instr.mapUpdate 39 (.map (some q.M)) (.int .i64 (n : Int)) (.slice va vl vc)).run Try.prog wr.drew = .ok () W' := hr
          have HU := Lib.hid hr
          have HREL := Lib.hid (show RefAt W' { q with u := q.u + (k + 1) } (d1.part (fun _ => 128) (k + 1)) ∧ Upd (rown q) w W' from ⟨by rw [p4]; exact hR', hB.drew.trans hu' (fun j e => .inl e)⟩)
          have HLT := Lib.hid hlt
          have q1 : (fun Z : World => Z.cell? ⟨q.D, 1, none⟩ = some (.map (some q.M)) ∧ Z.cell? ⟨q.D, 2, none⟩ = some (.slice (some ⟨g, 0, none⟩) K c0) ∧ Z.cell? ⟨g, k * 2, none⟩ = some (.int .i64 (n : Int)) ∧ Z.cell? ⟨g, k * 2 + 1, none⟩ = some (.slice va vl vc)) wr.drew := ⟨c1, hc2, e0, e1⟩
          clear hk hR hB hv0 hlt hO2 hOff p1 p2 p3 p4 hr hR' hu' hva hvl c1 e0 e1
          go_wp2_with fail
          refine regionL (fun Z : World => Z.cell? ⟨q.D, 1, none⟩ = some (.map (some q.M)) ∧ Z.cell? ⟨q.D, 2, none⟩ = some (.slice (some ⟨g, 0, none⟩) K c0) ∧ Z.cell? ⟨g, k * 2, none⟩ = some (.int .i64 (n : Int)) ∧ Z.cell? ⟨g, k * 2 + 1, none⟩ = some (.slice va vl vc)) 20 (by kernel_rfl) ?_
          refine takeL (i := 0) (oi := { dst := some 21, op := Go.Op.move (Go.Operand.tmp 0), type := 28, pos := "ref.go:120", after := #[], guard := none }) (v := .pointer (some ⟨q.D, 0, none⟩)) [20, 3, 2, 1] rfl (by kernel_rfl) (by kernel_rfl) (by kernel_rfl) (by kernel_rfl) (fun _ _ _ h => calm_panic h) rfl ?_ q1 ?_
          · intro Z hZ; go_simp
          simp only [Act.put, List.setIfInBounds_toArray, List.set_cons_zero, List.set_cons_succ]
          refine takeL (i := 1) (oi := { dst := some 22, op := Go.Op.nilCheck (Go.Operand.tmp 21), type := 0, pos := "ref.go:120", after := #[{ on := 0, ground := Go.Ground.data }], guard := none }) (v := .pointer (some ⟨q.D, 0, none⟩)) [20, 3, 2] rfl (by kernel_rfl) (by kernel_rfl) (by kernel_rfl) (by kernel_rfl) (fun _ _ _ h => calm_panic h) rfl ?_ q1 ?_
          · intro Z hZ; go_simp
          simp only [Act.put, List.setIfInBounds_toArray, List.set_cons_zero, List.set_cons_succ]
          refine takeL (i := 2) (oi := { dst := some 23, op := Go.Op.fieldAddr 42 (Go.Operand.tmp 22) 1, type := 0, pos := "ref.go:120", after := #[{ on := 1, ground := Go.Ground.data }], guard := none }) (v := .pointer (some ⟨q.D, 1, none⟩)) [20, 3] rfl (by kernel_rfl) (by kernel_rfl) (by kernel_rfl) (by kernel_rfl) (fun _ _ _ h => calm_panic h) rfl ?_ q1 ?_
          · intro Z hZ; go_simp
          simp only [Act.put, List.setIfInBounds_toArray, List.set_cons_zero, List.set_cons_succ]
          refine takeL (i := 3) (oi := { dst := some 24, op := Go.Op.load 39 (Go.Operand.tmp 23), type := 39, pos := "ref.go:120", after := #[{ on := 2, ground := Go.Ground.data }], guard := none }) (v := .map (some q.M)) [20] rfl (by kernel_rfl) (by kernel_rfl) (by kernel_rfl) (by kernel_rfl) (fun _ _ _ h => calm_panic h) rfl ?_ q1 ?_
          · intro Z hZ; obtain ⟨z1, z2, z3, z4⟩ := hZ; go_simp
          simp only [Act.put, List.setIfInBounds_toArray, List.set_cons_zero, List.set_cons_succ]
          refine takeL (i := 4) (oi := { dst := some 25, op := Go.Op.move (Go.Operand.tmp 0), type := 28, pos := "ref.go:120", after := #[], guard := none }) (v := .pointer (some ⟨q.D, 0, none⟩)) [20, 11, 10, 9, 7, 6, 5] rfl (by kernel_rfl) (by kernel_rfl) (by kernel_rfl) (by kernel_rfl) (fun _ _ _ h => calm_panic h) rfl ?_ q1 ?_
          · intro Z hZ; go_simp
          simp only [Act.put, List.setIfInBounds_toArray, List.set_cons_zero, List.set_cons_succ]
          refine takeL (i := 5) (oi := { dst := some 26, op := Go.Op.nilCheck (Go.Operand.tmp 25), type := 0, pos := "ref.go:120", after := #[{ on := 4, ground := Go.Ground.data }], guard := none }) (v := .pointer (some ⟨q.D, 0, none⟩)) [20, 11, 10, 9, 7, 6] rfl (by kernel_rfl) (by kernel_rfl) (by kernel_rfl) (by kernel_rfl) (fun _ _ _ h => calm_panic h) rfl ?_ q1 ?_
          · intro Z hZ; go_simp
          simp only [Act.put, List.setIfInBounds_toArray, List.set_cons_zero, List.set_cons_succ]
          refine takeL (i := 6) (oi := { dst := some 27, op := Go.Op.fieldAddr 42 (Go.Operand.tmp 26) 2, type := 0, pos := "ref.go:120", after := #[{ on := 5, ground := Go.Ground.data }], guard := none }) (v := .pointer (some ⟨q.D, 2, none⟩)) [20, 11, 10, 9, 7] rfl (by kernel_rfl) (by kernel_rfl) (by kernel_rfl) (by kernel_rfl) (fun _ _ _ h => calm_panic h) rfl ?_ q1 ?_
          · intro Z hZ; go_simp
          simp only [Act.put, List.setIfInBounds_toArray, List.set_cons_zero, List.set_cons_succ]
          refine takeL (i := 7) (oi := { dst := some 28, op := Go.Op.load 40 (Go.Operand.tmp 27), type := 40, pos := "ref.go:120", after := #[{ on := 6, ground := Go.Ground.data }], guard := none }) (v := .slice (some ⟨g, 0, none⟩) K c0) [20, 11, 10, 9] rfl (by kernel_rfl) (by kernel_rfl) (by kernel_rfl) (by kernel_rfl) (fun _ _ _ h => calm_panic h) rfl ?_ q1 ?_
          · intro Z hZ; obtain ⟨z1, z2, z3, z4⟩ := hZ; go_simp
          simp only [Act.put, List.setIfInBounds_toArray, List.set_cons_zero, List.set_cons_succ]
          refine takeL (i := 8) (oi := { dst := some 29, op := Go.Op.move (Go.Operand.tmp 4), type := 3, pos := "ref.go:120", after := #[], guard := none }) (v := .int .i64 (k : Int)) [20, 11, 10, 9] rfl (by kernel_rfl) (by kernel_rfl) (by kernel_rfl) (by kernel_rfl) (fun _ _ _ h => calm_panic h) rfl ?_ q1 ?_
          · intro Z hZ; go_simp
          simp only [Act.put, List.setIfInBounds_toArray, List.set_cons_zero, List.set_cons_succ]
          refine takeL (i := 9) (oi := { dst := some 30, op := Go.Op.indexAddr 40 (Go.Operand.tmp 28) (Go.Operand.tmp 29), type := 0, pos := "ref.go:120", after := #[{ on := 7, ground := Go.Ground.data }, { on := 8, ground := Go.Ground.data }], guard := none }) (v := .pointer (some ⟨g, k * 2, none⟩)) [20, 11, 10] rfl (by kernel_rfl) (by kernel_rfl) (by kernel_rfl) (by kernel_rfl) (fun _ _ _ h => calm_panic h) rfl ?_ q1 ?_
          · intro Z hZ; go_simp
          simp only [Act.put, List.setIfInBounds_toArray, List.set_cons_zero, List.set_cons_succ]
          refine takeL (i := 10) (oi := { dst := some 31, op := Go.Op.fieldAddr 47 (Go.Operand.tmp 30) 0, type := 0, pos := "ref.go:120", after := #[{ on := 9, ground := Go.Ground.data }], guard := none }) (v := .pointer (some ⟨g, k * 2, none⟩)) [20, 11] rfl (by kernel_rfl) (by kernel_rfl) (by kernel_rfl) (by kernel_rfl) (fun _ _ _ h => calm_panic h) rfl ?_ q1 ?_
          · intro Z hZ; go_simp
          simp only [Act.put, List.setIfInBounds_toArray, List.set_cons_zero, List.set_cons_succ]
          refine takeL (i := 11) (oi := { dst := some 32, op := Go.Op.load 3 (Go.Operand.tmp 31), type := 3, pos := "ref.go:120", after := #[{ on := 10, ground := Go.Ground.data }], guard := none }) (v := .int .i64 (n : Int)) [20] rfl (by kernel_rfl) (by kernel_rfl) (by kernel_rfl) (by kernel_rfl) (fun _ _ _ h => calm_panic h) rfl ?_ q1 ?_
          · intro Z hZ; obtain ⟨z1, z2, z3, z4⟩ := hZ; go_simp
          simp only [Act.put, List.setIfInBounds_toArray, List.set_cons_zero, List.set_cons_succ]
          refine takeL (i := 12) (oi := { dst := some 33, op := Go.Op.move (Go.Operand.tmp 0), type := 28, pos := "ref.go:120", after := #[], guard := none }) (v := .pointer (some ⟨q.D, 0, none⟩)) [20, 19, 18, 17, 15, 14, 13] rfl (by kernel_rfl) (by kernel_rfl) (by kernel_rfl) (by kernel_rfl) (fun _ _ _ h => calm_panic h) rfl ?_ q1 ?_
          · intro Z hZ; go_simp
          simp only [Act.put, List.setIfInBounds_toArray, List.set_cons_zero, List.set_cons_succ]
          refine takeL (i := 13) (oi := { dst := some 34, op := Go.Op.nilCheck (Go.Operand.tmp 33), type := 0, pos := "ref.go:120", after := #[{ on := 12, ground := Go.Ground.data }], guard := none }) (v := .pointer (some ⟨q.D, 0, none⟩)) [20, 19, 18, 17, 15, 14] rfl (by kernel_rfl) (by kernel_rfl) (by kernel_rfl) (by kernel_rfl) (fun _ _ _ h => calm_panic h) rfl ?_ q1 ?_
          · intro Z hZ; go_simp
          simp only [Act.put, List.setIfInBounds_toArray, List.set_cons_zero, List.set_cons_succ]
          refine takeL (i := 14) (oi := { dst := some 35, op := Go.Op.fieldAddr 42 (Go.Operand.tmp 34) 2, type := 0, pos := "ref.go:120", after := #[{ on := 13, ground := Go.Ground.data }], guard := none }) (v := .pointer (some ⟨q.D, 2, none⟩)) [20, 19, 18, 17, 15] rfl (by kernel_rfl) (by kernel_rfl) (by kernel_rfl) (by kernel_rfl) (fun _ _ _ h => calm_panic h) rfl ?_ q1 ?_
          · intro Z hZ; go_simp
          simp only [Act.put, List.setIfInBounds_toArray, List.set_cons_zero, List.set_cons_succ]
          refine takeL (i := 15) (oi := { dst := some 36, op := Go.Op.load 40 (Go.Operand.tmp 35), type := 40, pos := "ref.go:120", after := #[{ on := 14, ground := Go.Ground.data }], guard := none }) (v := .slice (some ⟨g, 0, none⟩) K c0) [20, 19, 18, 17] rfl (by kernel_rfl) (by kernel_rfl) (by kernel_rfl) (by kernel_rfl) (fun _ _ _ h => calm_panic h) rfl ?_ q1 ?_
          · intro Z hZ; obtain ⟨z1, z2, z3, z4⟩ := hZ; go_simp
          simp only [Act.put, List.setIfInBounds_toArray, List.set_cons_zero, List.set_cons_succ]
          refine takeL (i := 16) (oi := { dst := some 37, op := Go.Op.move (Go.Operand.tmp 4), type := 3, pos := "ref.go:120", after := #[], guard := none }) (v := .int .i64 (k : Int)) [20, 19, 18, 17] rfl (by kernel_rfl) (by kernel_rfl) (by kernel_rfl) (by kernel_rfl) (fun _ _ _ h => calm_panic h) rfl ?_ q1 ?_
          · intro Z hZ; go_simp
          simp only [Act.put, List.setIfInBounds_toArray, List.set_cons_zero, List.set_cons_succ]
          refine takeL (i := 17) (oi := { dst := some 38, op := Go.Op.indexAddr 40 (Go.Operand.tmp 36) (Go.Operand.tmp 37), type := 0, pos := "ref.go:120", after := #[{ on := 15, ground := Go.Ground.data }, { on := 16, ground := Go.Ground.data }], guard := none }) (v := .pointer (some ⟨g, k * 2, none⟩)) [20, 19, 18] rfl (by kernel_rfl) (by kernel_rfl) (by kernel_rfl) (by kernel_rfl) (fun _ _ _ h => calm_panic h) rfl ?_ q1 ?_
          · intro Z hZ; go_simp
          simp only [Act.put, List.setIfInBounds_toArray, List.set_cons_zero, List.set_cons_succ]
          refine takeL (i := 18) (oi := { dst := some 39, op := Go.Op.fieldAddr 47 (Go.Operand.tmp 38) 1, type := 0, pos := "ref.go:120", after := #[{ on := 17, ground := Go.Ground.data }], guard := none }) (v := .pointer (some ⟨g, k * 2 + 1, none⟩)) [20, 19] rfl (by kernel_rfl) (by kernel_rfl) (by kernel_rfl) (by kernel_rfl) (fun _ _ _ h => calm_panic h) rfl ?_ q1 ?_
          · intro Z hZ; go_simp
          simp only [Act.put, List.setIfInBounds_toArray, List.set_cons_zero, List.set_cons_succ]
          refine takeL (i := 19) (oi := { dst := some 40, op := Go.Op.load 32 (Go.Operand.tmp 39), type := 32, pos := "ref.go:120", after := #[{ on := 18, ground := Go.Ground.data }], guard := none }) (v := .slice va vl vc) [20] rfl (by kernel_rfl) (by kernel_rfl) (by kernel_rfl) (by kernel_rfl) (fun _ _ _ h => calm_panic h) rfl ?_ q1 ?_
          · intro Z hZ; obtain ⟨z1, z2, z3, z4⟩ := hZ; go_simp
          simp only [Act.put, List.setIfInBounds_toArray, List.set_cons_zero, List.set_cons_succ]
          refine oneL (i := 20) (o := { dst := none, op := Go.Op.mapUpdate 39 (Go.Operand.tmp 24) (Go.Operand.tmp 32) (Go.Operand.tmp 40), type := 0, pos := "ref.go:120", after := #[{ on := 3, ground := Go.Ground.data }, { on := 11, ground := Go.Ground.data }, { on := 19, ground := Go.Ground.data }, { on := 0, ground := Go.Ground.phase }, { on := 1, ground := Go.Ground.phase }, { on := 2, ground := Go.Ground.phase }, { on := 3, ground := Go.Ground.phase }, { on := 4, ground := Go.Ground.phase }, { on := 5, ground := Go.Ground.phase }, { on := 6, ground := Go.Ground.phase }, { on := 7, ground := Go.Ground.phase }, { on := 8, ground := Go.Ground.phase }, { on := 9, ground := Go.Ground.phase }, { on := 10, ground := Go.Ground.phase }, { on := 11, ground := Go.Ground.phase }, { on := 12, ground := Go.Ground.phase }, { on := 13, ground := Go.Ground.phase }, { on := 14, ground := Go.Ground.phase }, { on := 15, ground := Go.Ground.phase }, { on := 16, ground := Go.Ground.phase }, { on := 17, ground := Go.Ground.phase }, { on := 18, ground := Go.Ground.phase }, { on := 19, ground := Go.Ground.phase }], guard := none }) rfl (by kernel_rfl) rfl ?_
          refine wp_by_skip (w' := W') (exec_mapU rfl rfl rfl rfl HU.out) ⟨fun h => absurd rfl h, ?_⟩
          simp only [Act.put, List.setIfInBounds_toArray, List.set_cons_zero, List.set_cons_succ]
          refine doneL (by kernel_rfl) (Calm.normal ?_) _
          go_wp2
          go_roundw
          case rel => exact ⟨k + 1, by first | rfl | rw [wk], HLT.out, HREL.out⟩
          case measure => exact meas_succ HLT.out wk
        · have hke : k = K := by omega
          subst hke
          have i1 : ¬ ((k : Int) < (k : Int)) := by omega
          have hR0 := hR
          have f2 := hR.dev.free 2
          have hu2 : Upd (fun j => j = q.D) wr (wr.setCell ⟨q.D, 2, none⟩ nilV) := (Upd.refl (fun j => j = q.D) wr).setCell (p := ⟨q.D, 2, none⟩) (.inl rfl) _
          have eP : d1.apply (fun _ => 128) = { d1.part (fun _ => 128) k with cache := [] } := by rw [← part_end, HK.out]
          have hE := ref_empty (e := d1.apply (fun _ => 128)) hR hu2 (by rw [eP]; exact hR.dev.set 2 nilV) (by rw [eP]) rfl (H1.out.ok.apply _)
          have HX := Lib.hid (show ∃ q', RefAt (wr.setCell ⟨q.D, 2, none⟩ nilV) q' (d1.apply (fun _ => 128)) ∧ RStep q q' w (wr.setCell ⟨q.D, 2, none⟩ nilV) from
            ⟨_, hE.1, rfl, hB.trans hu2 (fun j e => .inl (.inl e)), fun j hj => .inl (hE.2 j hj), by show q.u + k ≤ q.u + 256; have := HKL.out; omega⟩)
          clear hk hR hB hlt hR0 hE hu2 eP
          go_wp2
          go_ret
          exact ⟨rfl, HX.out⟩
    · rw [hk] at HC
      rw [if_pos rfl]
      clear h hd hk hc
      go_enter Try.func33, Try.ntmps33
      go_wp2_with (refine HC.out.mono ?_; rintro e w1 ⟨rfl, h1, s1⟩; have H1 := Lib.hid h1; have S1 := Lib.hid s1; clear h1 s1)
      go_ret
      exact ⟨rfl, q, H1.out, S1.out⟩
  · rw [hd] at c4
    rw [if_pos rfl, if_pos rfl]
    have HR := Lib.hid (show RefAt w q d ∧ RStep q q w w from ⟨h, RStep.refl _ _⟩)
    clear h hd hc
    go_enter Try.func33, Try.ntmps33
    go_wp2
    go_ret
    exact ⟨rfl, q, HR.out⟩
end Go.Proofs.Yteopbeafhhfdoaa
