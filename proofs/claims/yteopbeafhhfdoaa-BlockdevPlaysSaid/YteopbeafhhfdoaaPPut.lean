/- The document's device: Put. -/
import Derived.Test.YteopbeafhhfdoaaPFlush
import Derived.Test.YteopbeafhhfdoaaDSec
set_option linter.unusedVariables false
set_option linter.unusedSimpArgs false
namespace Go.Proofs.Yteopbeafhhfdoaa
open Go.RowKit Go.Maps
theorem RStep.trans0 {w w' w'' : World} {q q' q'' : Rl} (h : RStep q q' w w') (k : RStep q' q'' w' w'') (hu : q''.u ≤ q.u + 256) : RStep q q'' w w'' :=
  ⟨k.D.trans h.D, h.upd.trans k.upd h.has, fun j hj => by
    rcases k.has j hj with q | q
    · exact h.has j q
    · exact .inr (Nat.le_trans h.upd.size q), hu⟩
theorem rwr_parts : ∃ i, Try.prog.info? 47 = some i ∧ i.zero = some (.agg #[.int .i64 0, nilV]) ∧ i.size = 2 ∧ i.bytes = 32 := by
  have h : (Try.prog.info? 47).map (fun i => (i.zero, i.size, i.bytes)) = some (some (.agg #[.int .i64 0, nilV]), 2, 32) := by kernel_rfl
  cases hi : Try.prog.info? 47 with
  | none => rw [hi] at h; cases h
  | some i => rw [hi] at h; simp at h; exact ⟨i, rfl, h.1, h.2.1, h.2.2⟩
theorem run_append_rw (w : World) (ty : Nat) (v : Value) (xs : List (Int × Value)) (x : Int × Value) (h : w.ownsRow 0 47 2 v xs.length (xs.map rcells).flatten) (hl : xs.length ≤ 100000) (g : Nat) (hg : At 47 w g #[.int .i64 x.1, x.2]) (hx : x.2.oneCell' = true) :
    ∃ v' w', (Builtin.append_ #[40, 40] ty #[v, .slice (some ⟨g, 0, none⟩) 1 1]).run Try.prog w = .ok v' w' ∧ w'.ownsRow 0 47 2 v' (xs ++ [x]).length ((xs ++ [x]).map rcells).flatten ∧ w.grownBy w' v.ownBlock ∧ (v'.ownBlock = v.ownBlock ∨ v'.ownBlock = some w.heap.size) := by
  obtain ⟨i, hi, hz, hs, hb⟩ := rwr_parts
  obtain ⟨v', w', h1, h2, h3, _, h5⟩ := run_append_own_at (P := Try.prog) w 0 40 ty 47 i _ 2 32 Try.underlying40 hi hz hs hb rfl (by decide) v xs.length (xs.map rcells).flatten h ⟨g, 0, none⟩ 1 1 [.int .i64 x.1, x.2] rfl
    (fun j u hu => by
      rw [Addr.add_mid, Nat.zero_add, hg.cell]
      rcases j with _ | _ | j
      · exact hu
      · exact hu
      · simp at hu) (fun u hu => by
      rcases List.mem_cons.1 hu with e | e
      · rw [e]; rfl
      · rw [List.mem_singleton.1 e]; exact hx) (by unfold maxLen; omega) (by omega) (Nat.zero_le _)
  refine ⟨v', w', h1, ?_, h3, h5⟩
  rw [List.length_append, List.map_append, List.flatten_append]
  exact h2
/-- The cache has one more. -/
theorem ref_push {w w1 w2 w3 : World} {q : Rl} {d : Dv} (h : RefAt w q d) {n : Int} {L : List Int} {v v3 : Value} (hv : Own8 w.heap.size w1 v L) (hb1 : Below w.heap.size w w1) (hb2 : Below w1.heap.size w1 w2) (hg : w2.grownBy w3 q.vC.ownBlock)
    (hr : w3.ownsRow 0 47 2 v3 (q.vs ++ [(n, v)]).length ((q.vs ++ [(n, v)]).map rcells).flatten) (hb : v3.ownBlock = q.vC.ownBlock ∨ v3.ownBlock = some w2.heap.size)
    (ho : Dv.Ok { d with cache := d.cache ++ [(n, L)] }) :
    RefAt (w3.setCell ⟨q.D, 2, none⟩ v3) { q with vC := v3, vs := q.vs ++ [(n, v)] } { d with cache := d.cache ++ [(n, L)] } ∧ RStep q { q with vC := v3, vs := q.vs ++ [(n, v)] } w (w3.setCell ⟨q.D, 2, none⟩ v3) := by
  obtain ⟨a1, a2⟩ := h.apart
  have hs := hb1.size
  have hs2 := hb2.size
  have u2 : Upd (rown q) w w2 := Upd.of (hb1.trans (hb2.mono hs)) _
  have u3 : Upd (fun k => q.vC.ownBlock = some k) w w3 := (Upd.of (hb1.trans (hb2.mono hs)) _).grown hg (fun r e => .inl e)
  have u23 : Upd (fun k => q.vC.ownBlock = some k) w1 w3 := (Upd.of hb2 _).grown hg (fun r e => .inl e)
  have u4 : Upd (fun k => k = q.D) w3 (w3.setCell ⟨q.D, 2, none⟩ v3) := (Upd.refl (fun k => k = q.D) w3).setCell (p := ⟨q.D, 2, none⟩) (.inl rfl) _
  have uA : Upd (fun k => k = q.D ∨ q.vC.ownBlock = some k) w (w3.setCell ⟨q.D, 2, none⟩ v3) := (u3.mono (O' := fun k => k = q.D ∨ q.vC.ownBlock = some k) (fun j e => .inr e)).trans u4 (fun j e => .inl (.inl e))
  have uB : Upd (fun k => k = q.D ∨ q.vC.ownBlock = some k) w1 (w3.setCell ⟨q.D, 2, none⟩ v3) := (u23.mono (O' := fun k => k = q.D ∨ q.vC.ownBlock = some k) (fun j e => .inr e)).trans u4 (fun j e => .inl (.inl e))
  have h8 : ∀ k cs fr, w.heap[k]? = some (.cells cs 5 fr) → ¬ q.G k → ¬ (k = q.D ∨ q.vC.ownBlock = some k) := fun k cs fr hk _ e => by
    rcases e with e | e
    · exact h.not8 hk (.inl e)
    · exact h.not8 hk (.inr (.inr e))
  have h1 := h.below hb1
  have h81 : ∀ k cs fr, w1.heap[k]? = some (.cells cs 5 fr) → ¬ q.G k → ¬ (k = q.D ∨ q.vC.ownBlock = some k) := fun k cs fr hk _ e => by
    rcases e with e | e
    · exact h1.not8 hk (.inl e)
    · exact h1.not8 hk (.inr (.inr e))
  have hne : ∀ k, v3.ownBlock = some k → k ≠ q.D := fun k hk => by
    rcases hb with e | e
    · exact (a2 k (by rw [← e]; exact hk)).1
    · rw [e] at hk; cases hk
      have := h.lt _ (.inl rfl); omega
  have hd3 : At 42 w3 q.D _ := h.dev.upd u3 (fun e => (a2 _ e).1 rfl)
  refine ⟨⟨hd3.set 2 v3, map_upd h.map uA (fun e => ?_) h8, ownsRow_upd hr u4 hne, ?_, ?_, ho, fun k hk => Nat.lt_of_lt_of_le (h.low k hk) uA.size⟩, rfl, uA.mono (fun j e => e.elim .inl (fun e => .inr (.inr e))), ?_, by show q.u ≤ _; omega⟩
  · rcases e with e | e
    · exact a1 e.symm
    · exact (a2 _ e).2 rfl
  · show (q.vs ++ [(n, v)]).length = (d.cache ++ [(n, L)]).length
    rw [List.length_append, List.length_append, h.len]; rfl
  · intro k hk hk'
    have hk : k < (q.vs ++ [(n, v)]).length := hk
    have hk' : k < (d.cache ++ [(n, L)]).length := hk'
    show ((q.vs ++ [(n, v)])[k]).1 = ((d.cache ++ [(n, L)])[k]).1 ∧ Own8 0 _ ((q.vs ++ [(n, v)])[k]).2 ((d.cache ++ [(n, L)])[k]).2 ∧ Off q.G ((q.vs ++ [(n, v)])[k]).2
    by_cases e : k < d.cache.length
    · rw [List.getElem_append_left (by rw [h.len]; exact e), List.getElem_append_left e]
      have := h.rows k (by rw [h.len]; exact e) e
      exact ⟨this.1, own8_upd this.2.1 uA this.2.2 h8, this.2.2⟩
    · have e2 : k = d.cache.length := by rw [List.length_append] at hk'; simp at hk'; omega
      subst e2
      rw [List.getElem_append_right (by rw [h.len]; exact Nat.le_refl _), List.getElem_append_right (Nat.le_refl _)]
      simp only [h.len, Nat.sub_self, List.getElem_singleton]
      exact ⟨trivial, own8_upd (hv.le (Nat.zero_le _)) uB (off_fresh h hv) h81, off_fresh h hv⟩
  · rintro k (e | e | e)
    · exact .inl (.inl e)
    · exact .inl (.inr (.inl e))
    · rcases hb with e2 | e2
      · exact .inl (.inr (.inr (by rw [← e2]; exact e)))
      · have e : v3.ownBlock = some k := e
        rw [e2] at e; cases e
        exact .inr (by omega)
theorem Dv.Ok.push {d : Dv} (h : d.Ok) {n : Int} (hn : HasN d n) (hf : d.cache.length < 256) {L : List Int} (hL : Sec L) : Dv.Ok { d with cache := d.cache ++ [(n, L)] } :=
  ⟨h.pos, h.most, h.secs, fun c hc => by
    rcases List.mem_append.1 hc with e | e
    · exact h.wr c e
    · rw [List.mem_singleton.1 e]; exact ⟨hn.1, hn.2, hL⟩, by show (d.cache ++ [(n, L)]).length ≤ 256; rw [List.length_append]; simp; omega, h.calls, h.frm, h.num, h.plan⟩
set_option maxRecDepth 100000 in
set_option maxHeartbeats 2000000 in
theorem rput_any (q : Rl) (d : Dv) (w : World) (h : RefAt w q d) (n : Int) (ab : Option Addr) (m cb : Nat) (L : List Int) (hb : Bys8 w.heap.size w (.slice ab m cb) L) (hm : L.length = m) (hc : d.calls < 4611686018427387904) :
    Calls Try.prog 32 #[ptr q.D, .int .i64 n, .slice ab m cb] w fun e w' => e = .returned (.int .i64 (writeE d n m)) ∧ ∃ q', RefAt w' q' (d.write n L) ∧ RStep q q' w w' := by
  have hmx : Try.prog.follows .mixedOrders = true := by kernel_rfl
  have c4 : w.cell? ⟨q.D, 4, none⟩ = some (.bool d.down) := h.dev.cell 4
  have HP := rplace_any q d w h n
  obtain ⟨a0, c0, hv0⟩ := rform h
  have c2 : w.cell? ⟨q.D, 2, none⟩ = some (.slice a0 d.cache.length c0) := by rw [← hv0]; exact h.dev.cell 2
  have hful := h.ok.full
  cases hd : d.down
  · rw [hd] at c4
    by_cases hh : HasN d n
    · rw [decide_eq_true hh] at HP
      replace HP := Lib.hid HP
      by_cases h128 : m = 128
      · subst h128
        by_cases hf : d.cache.length = 256
        · have eE : writeE d n 128 = 122 := by unfold writeE accE; simp [hd, hh, hf, hm]
          have eW : d.write n L = d := by unfold Dv.write accE; simp [hd, hh, hf, hm]
          rw [eE, eW]
          clear eE eW
          have HR := Lib.hid (show RefAt w q d ∧ RStep q q w w from ⟨h, RStep.refl _ _⟩)
          rw [hf] at c2
          clear h hd hh hb hm hc hf hful hv0
          go_enter Try.func32, Try.ntmps32
          go_wp2_with (refine HP.out.mono ?_; rintro e w' ⟨rfl, rfl⟩)
          go_ret
          exact ⟨rfl, q, HR.out⟩
        · have eE : writeE d n 128 = downE d.counted.down := by unfold writeE accE; simp [hd, hh, hf, hm]
          have eW : d.write n L = { d with cache := d.cache ++ [(n, L)] }.counted := by unfold Dv.write accE; simp [hd, hh, hf, hm]
          rw [eE, eW]
          clear eE eW
          obtain ⟨K, hK⟩ : ∃ K, d.cache.length = K := ⟨_, rfl⟩
          rw [hK] at hv0 c2 hf hful
          have hlt : ¬ (256 : Int) ≤ (K : Int) := by omega
          have q1 : (fun Z : World => Z.cell? ⟨q.D, 2, none⟩ = some (.slice a0 K c0)) w.drew := c2
          obtain ⟨v1, W1, hr1, hO1, hB1⟩ := run_bapp8 w.heap.size 32 w.drew (.slice none 0 0) [] (Own8.nil _ _) _ ab 128 cb L (show Bys8 w.heap.size w.drew _ L from hb) (by simp [hm]) (Nat.le_refl _)
          rw [List.nil_append] at hO1
          obtain ⟨va, vc, hv1⟩ := hO1.form
          rw [hm] at hv1
          subst hv1
          have b1 : Below w.heap.size w W1 := ((Below.refl _ w).drew).trans hB1
          have hR1 := h.below b1
          have q2 : (fun Z : World => Z.cell? ⟨q.D, 2, none⟩ = some (.slice a0 K c0)) W1 := by show W1.cell? _ = _; rw [← hv0]; exact hR1.dev.cell 2
          obtain ⟨W2, hW2⟩ : ∃ W2, W2 = W1.alloc (.cells #[.int .i64 n, .slice va 128 vc] 47) := ⟨_, rfl⟩
          have b2 : Below W1.heap.size W1 W2 := by rw [hW2]; exact (Below.refl _ _).alloc (Nat.le_refl _) _
          have hR2 := hR1.below b2
          have hg2 : At 47 W2 W1.heap.size #[.int .i64 n, .slice va 128 vc] := by rw [hW2]; exact At.new _ _ _
          have q3 : (fun Z : World => Z.cell? ⟨q.D, 2, none⟩ = some (.slice a0 K c0)) W2 := by show W2.cell? _ = _; rw [← hv0]; exact hR2.dev.cell 2
          obtain ⟨v3, W3, hr3, ho3, hg3, hb3⟩ := run_append_rw W2 40 q.vC q.vs (n, .slice va 128 vc) hR2.cache (by rw [h.len, hK]; omega) W1.heap.size hg2 rfl
          obtain ⟨a3, c3, hv3⟩ : ∃ a3 c3, v3 = .slice a3 (K + 1) c3 := by
            have e : (q.vs ++ [(n, Value.slice va 128 vc)]).length = K + 1 := by rw [List.length_append, h.len, hK]; rfl
            rw [e] at ho3
            rcases ho3.2 with ⟨e, e2⟩ | ⟨g, cap, cur, e, _⟩
            · omega
            · exact ⟨_, _, e⟩
          subst hv3
          obtain ⟨z1, z2⟩ := h.apart
          have d3 : At 42 W3 q.D _ := hR2.dev.upd ((Upd.refl (fun k => q.vC.ownBlock = some k) W2).grown hg3 (fun r e => .inl e)) (fun e => (z2 _ e).1 rfl)
          have q4 : W3.cell? ⟨q.D, 2, none⟩ = some (.slice a0 K c0) := by rw [← hv0]; exact d3.cell 2
          have ff4 := d3.free 2
          have ho := h.ok.push hh (by rw [hK]; omega) (L := L) ⟨hm, hb.1⟩
          have hX := ref_push h hO1 b1 b2 hg3 ho3 hb3 ho
          rw [hv0] at hr3
          have HR1 := Lib.hid hr1
          have HR3 := Lib.hid hr3
          have HC := Lib.hid (show Calls Try.prog 48 #[ptr q.D] (W3.setCell ⟨q.D, 2, none⟩ (.slice a3 (K + 1) c3)) fun e w' => e = .returned (.bool d.counted.down) ∧ RefAt w' (({ q with vC := .slice a3 (K + 1) c3, vs := q.vs ++ [(n, .slice va 128 vc)] } : Rl)) (Dv.counted (({ d with cache := d.cache ++ [(n, L)] } : Dv))) ∧ RStep (({ q with vC := .slice a3 (K + 1) c3, vs := q.vs ++ [(n, .slice va 128 vc)] } : Rl)) (({ q with vC := .slice a3 (K + 1) c3, vs := q.vs ++ [(n, .slice va 128 vc)] } : Rl)) (W3.setCell ⟨q.D, 2, none⟩ (.slice a3 (K + 1) c3)) w' from rcounts_any _ _ _ hX.1 hd hc)
          have HS := Lib.hid hX.2
          clear h hd hh hb hm hc hf hful hv0 hK hr1 hO1 hB1 b1 hR1 b2 hR2 hg2 hr3 ho3 hg3 hb3 z1 z2 d3 ho hX
          go_enter Try.func32, Try.ntmps32
          go_wp2_with (first | (go_at_call 47; refine HP.out.mono ?_; rintro e w' ⟨rfl, rfl⟩) | fail)
          refine regionL (fun Z : World => Z.cell? ⟨q.D, 2, none⟩ = some (.slice a0 K c0)) 14 (by kernel_rfl) ?_
          refine takeL (i := 0) (oi := { dst := some 28, op := Go.Op.move (Go.Operand.tmp 0), type := 28, pos := "ref.go:102", after := #[], guard := none }) (v := .pointer (some ⟨q.D, 0, none⟩)) [14, 13, 12] rfl (by kernel_rfl) (by kernel_rfl) (by kernel_rfl) (by kernel_rfl) (fun _ _ _ h => calm_panic h) rfl ?_ q1 ?_
          · intro Z hZ; go_simp
          simp only [Act.put, List.setIfInBounds_toArray, List.set_cons_zero, List.set_cons_succ]
          refine takeL (i := 1) (oi := { dst := some 29, op := Go.Op.move (Go.Operand.tmp 0), type := 28, pos := "ref.go:102", after := #[], guard := none }) (v := .pointer (some ⟨q.D, 0, none⟩)) [14, 13, 12, 11, 4, 3, 2] rfl (by kernel_rfl) (by kernel_rfl) (by kernel_rfl) (by kernel_rfl) (fun _ _ _ h => calm_panic h) rfl ?_ q1 ?_
          · intro Z hZ; go_simp
          simp only [Act.put, List.setIfInBounds_toArray, List.set_cons_zero, List.set_cons_succ]
          refine takeL (i := 2) (oi := { dst := some 30, op := Go.Op.nilCheck (Go.Operand.tmp 29), type := 0, pos := "ref.go:102", after := #[{ on := 1, ground := Go.Ground.data }], guard := none }) (v := .pointer (some ⟨q.D, 0, none⟩)) [14, 13, 12, 11, 4, 3] rfl (by kernel_rfl) (by kernel_rfl) (by kernel_rfl) (by kernel_rfl) (fun _ _ _ h => calm_panic h) rfl ?_ q1 ?_
          · intro Z hZ; go_simp
          simp only [Act.put, List.setIfInBounds_toArray, List.set_cons_zero, List.set_cons_succ]
          refine takeL (i := 3) (oi := { dst := some 31, op := Go.Op.fieldAddr 42 (Go.Operand.tmp 30) 2, type := 0, pos := "ref.go:102", after := #[{ on := 2, ground := Go.Ground.data }], guard := none }) (v := .pointer (some ⟨q.D, 2, none⟩)) [14, 13, 12, 11, 4] rfl (by kernel_rfl) (by kernel_rfl) (by kernel_rfl) (by kernel_rfl) (fun _ _ _ h => calm_panic h) rfl ?_ q1 ?_
          · intro Z hZ; go_simp
          simp only [Act.put, List.setIfInBounds_toArray, List.set_cons_zero, List.set_cons_succ]
          refine takeL (i := 4) (oi := { dst := some 32, op := Go.Op.load 40 (Go.Operand.tmp 31), type := 40, pos := "ref.go:102", after := #[{ on := 3, ground := Go.Ground.data }], guard := none }) (v := .slice a0 K c0) [14, 13, 12, 11] rfl (by kernel_rfl) (by kernel_rfl) (by kernel_rfl) (by kernel_rfl) (fun _ _ _ h => calm_panic h) rfl ?_ q1 ?_
          · intro Z hZ; have z1 := hZ; go_simp
          simp only [Act.put, List.setIfInBounds_toArray, List.set_cons_zero, List.set_cons_succ]
          refine takeL (i := 5) (oi := { dst := some 33, op := Go.Op.move (Go.Operand.tmp 1), type := 3, pos := "ref.go:102", after := #[], guard := none }) (v := .int .i64 n) [14, 13, 12, 11, 10, 9] rfl (by kernel_rfl) (by kernel_rfl) (by kernel_rfl) (by kernel_rfl) (fun _ _ _ h => calm_panic h) rfl ?_ q1 ?_
          · intro Z hZ; go_simp
          simp only [Act.put, List.setIfInBounds_toArray, List.set_cons_zero, List.set_cons_succ]
          refine takeL (i := 6) (oi := { dst := some 34, op := Go.Op.move (Go.Operand.tmp 8), type := 32, pos := "ref.go:102", after := #[], guard := none }) (v := .slice none 0 0) [14, 13, 12, 11, 10, 9, 8] rfl (by kernel_rfl) (by kernel_rfl) (by kernel_rfl) (by kernel_rfl) (fun _ _ _ h => calm_panic h) rfl ?_ q1 ?_
          · intro Z hZ; go_simp
          simp only [Act.put, List.setIfInBounds_toArray, List.set_cons_zero, List.set_cons_succ]
          refine takeL (i := 7) (oi := { dst := some 35, op := Go.Op.move (Go.Operand.tmp 2), type := 32, pos := "ref.go:102", after := #[], guard := none }) (v := .slice ab 128 cb) [14, 13, 12, 11, 10, 9, 8] rfl (by kernel_rfl) (by kernel_rfl) (by kernel_rfl) (by kernel_rfl) (fun _ _ _ h => calm_panic h) rfl ?_ q1 ?_
          · intro Z hZ; go_simp
          simp only [Act.put, List.setIfInBounds_toArray, List.set_cons_zero, List.set_cons_succ]
          refine oneL (i := 8) (o := { dst := some 36, op := Go.Op.call { callee := Go.Callee.builtin Go.Builtin.append, args := #[Go.Operand.tmp 34, Go.Operand.tmp 35], argTypes := #[32, 32] }, type := 32, pos := "ref.go:102", after := #[{ on := 6, ground := Go.Ground.data }, { on := 7, ground := Go.Ground.data }], guard := none }) rfl (by kernel_rfl) rfl ?_
          refine wp_by_run (w' := W1) (v := .slice va 128 vc) (exec_append rfl rfl rfl HR1.out) ⟨fun _ => q2, ?_⟩
          simp only [Act.put, List.setIfInBounds_toArray, List.set_cons_zero, List.set_cons_succ]
          refine takeL (i := 9) (oi := { dst := some 37, op := Go.Op.build 47 #[(0, Go.Operand.tmp 33), (1, Go.Operand.tmp 36)], type := 47, pos := "ref.go:102", after := #[{ on := 5, ground := Go.Ground.data }, { on := 8, ground := Go.Ground.data }], guard := none }) (v := .agg #[.int .i64 n, .slice va 128 vc]) [14, 13, 12, 11, 10] rfl (by kernel_rfl) (by kernel_rfl) (by kernel_rfl) (by kernel_rfl) (fun _ _ _ h => calm_panic h) rfl ?_ q2 ?_
          · intro Z hZ; go_simp
          simp only [Act.put, List.setIfInBounds_toArray, List.set_cons_zero, List.set_cons_succ]
          refine oneL (i := 10) (o := { dst := some 38, op := Go.Op.buildSlice 40 1 #[(0, Go.Operand.tmp 37)], type := 40, pos := "ref.go:102", after := #[{ on := 9, ground := Go.Ground.data }], guard := none }) rfl (by kernel_rfl) rfl ?_
          refine wp_by_run (w' := W2) (v := .slice (some ⟨W1.heap.size, 0, none⟩) 1 1) (by rw [hW2]; go_simp) ⟨fun _ => q3, ?_⟩
          simp only [Act.put, List.setIfInBounds_toArray, List.set_cons_zero, List.set_cons_succ]
          refine oneL (i := 11) (o := { dst := some 39, op := Go.Op.call { callee := Go.Callee.builtin Go.Builtin.append, args := #[Go.Operand.tmp 32, Go.Operand.tmp 38], argTypes := #[40, 40] }, type := 40, pos := "ref.go:102", after := #[{ on := 4, ground := Go.Ground.data }, { on := 10, ground := Go.Ground.data }, { on := 8, ground := Go.Ground.chain }], guard := none }) rfl (by kernel_rfl) rfl ?_
          refine wp_by_run (w' := W3) (v := .slice a3 (K + 1) c3) (exec_append rfl rfl rfl HR3.out) ⟨fun _ => q4, ?_⟩
          simp only [Act.put, List.setIfInBounds_toArray, List.set_cons_zero, List.set_cons_succ]
          refine takeL (i := 12) (oi := { dst := some 40, op := Go.Op.nilCheck (Go.Operand.tmp 28), type := 0, pos := "ref.go:102", after := #[{ on := 0, ground := Go.Ground.data }, { on := 0, ground := Go.Ground.phase }, { on := 1, ground := Go.Ground.phase }, { on := 2, ground := Go.Ground.phase }, { on := 3, ground := Go.Ground.phase }, { on := 4, ground := Go.Ground.phase }, { on := 5, ground := Go.Ground.phase }, { on := 6, ground := Go.Ground.phase }, { on := 7, ground := Go.Ground.phase }, { on := 8, ground := Go.Ground.phase }, { on := 9, ground := Go.Ground.phase }, { on := 10, ground := Go.Ground.phase }, { on := 11, ground := Go.Ground.phase }], guard := none }) (v := .pointer (some ⟨q.D, 0, none⟩)) [14, 13] rfl (by kernel_rfl) (by kernel_rfl) (by kernel_rfl) (by kernel_rfl) (fun _ _ _ h => calm_panic h) rfl ?_ q4 ?_
          · intro Z hZ; go_simp
          simp only [Act.put, List.setIfInBounds_toArray, List.set_cons_zero, List.set_cons_succ]
          refine takeL (i := 13) (oi := { dst := some 41, op := Go.Op.fieldAddr 42 (Go.Operand.tmp 40) 2, type := 0, pos := "ref.go:102", after := #[{ on := 12, ground := Go.Ground.data }, { on := 0, ground := Go.Ground.phase }, { on := 1, ground := Go.Ground.phase }, { on := 2, ground := Go.Ground.phase }, { on := 3, ground := Go.Ground.phase }, { on := 4, ground := Go.Ground.phase }, { on := 5, ground := Go.Ground.phase }, { on := 6, ground := Go.Ground.phase }, { on := 7, ground := Go.Ground.phase }, { on := 8, ground := Go.Ground.phase }, { on := 9, ground := Go.Ground.phase }, { on := 10, ground := Go.Ground.phase }, { on := 11, ground := Go.Ground.phase }], guard := none }) (v := .pointer (some ⟨q.D, 2, none⟩)) [14] rfl (by kernel_rfl) (by kernel_rfl) (by kernel_rfl) (by kernel_rfl) (fun _ _ _ h => calm_panic h) rfl ?_ q4 ?_
          · intro Z hZ; go_simp
          simp only [Act.put, List.setIfInBounds_toArray, List.set_cons_zero, List.set_cons_succ]
          refine oneL (i := 14) (o := { dst := none, op := Go.Op.store 40 (Go.Operand.tmp 41) (Go.Operand.tmp 39), type := 0, pos := "ref.go:102", after := #[{ on := 13, ground := Go.Ground.data }, { on := 11, ground := Go.Ground.data }, { on := 11, ground := Go.Ground.chain }, { on := 0, ground := Go.Ground.phase }, { on := 1, ground := Go.Ground.phase }, { on := 2, ground := Go.Ground.phase }, { on := 3, ground := Go.Ground.phase }, { on := 4, ground := Go.Ground.phase }, { on := 5, ground := Go.Ground.phase }, { on := 6, ground := Go.Ground.phase }, { on := 7, ground := Go.Ground.phase }, { on := 8, ground := Go.Ground.phase }, { on := 9, ground := Go.Ground.phase }, { on := 10, ground := Go.Ground.phase }, { on := 11, ground := Go.Ground.phase }], guard := none }) rfl (by kernel_rfl) rfl ?_
          refine wp_by_skip (w' := W3.setCell ⟨q.D, 2, none⟩ (.slice a3 (K + 1) c3)) (exec_store rfl rfl rfl q4 ff4 rfl (by kernel_rfl)) ⟨fun h => absurd rfl h, ?_⟩
          simp only [Act.put, List.setIfInBounds_toArray, List.set_cons_zero, List.set_cons_succ]
          refine doneL (by kernel_rfl) (Calm.normal ?_) _
          clear c2 q1 q2 q3 q4 ff4 hW2 HR1 HR3 HP hlt
          cases hcd : d.counted.down
          all_goals
            rw [hcd] at HC
            go_wp2_with (refine HC.out.mono ?_; rintro e w4 ⟨rfl, h4, s4⟩; have HF := Lib.hid (And.intro h4 (HS.out.trans0 s4 (by show q.u ≤ _; omega))); clear h4 s4)
            go_ret
            exact ⟨by rw [hcd]; rfl, _, HF.out⟩
      · have eE : writeE d n m = 2 := by unfold writeE accE; simp [hd, hh, h128, hm]
        have eW : d.write n L = d := by unfold Dv.write accE; simp [hd, hh, h128, hm]
        rw [eE, eW]
        clear eE eW
        have HR := Lib.hid (show RefAt w q d ∧ RStep q q w w from ⟨h, RStep.refl _ _⟩)
        have i1 : ¬ ((m : Int) = 128) := by omega
        clear h hd hh hb hm hc hful hv0 c2
        go_enter Try.func32, Try.ntmps32
        go_wp2_with (refine HP.out.mono ?_; rintro e w' ⟨rfl, rfl⟩)
        go_ret
        exact ⟨rfl, q, HR.out⟩
    · rw [decide_eq_false hh] at HP
      replace HP := Lib.hid HP
      have eE : writeE d n m = 121 := by unfold writeE accE; simp [hd, hh]
      have eW : d.write n L = d := by unfold Dv.write accE; simp [hd, hh]
      rw [eE, eW]
      clear eE eW
      have HR := Lib.hid (show RefAt w q d ∧ RStep q q w w from ⟨h, RStep.refl _ _⟩)
      clear h hd hh hb hm hc hful hv0 c2
      go_enter Try.func32, Try.ntmps32
      go_wp2_with (refine HP.out.mono ?_; rintro e w' ⟨rfl, rfl⟩)
      go_ret
      exact ⟨rfl, q, HR.out⟩
  · rw [hd] at c4
    have eE : writeE d n m = 120 := by unfold writeE accE; simp [hd]
    have eW : d.write n L = d := by unfold Dv.write accE; simp [hd]
    rw [eE, eW]
    clear eE eW
    have HR := Lib.hid (show RefAt w q d ∧ RStep q q w w from ⟨h, RStep.refl _ _⟩)
    clear h hd hb hm hc hful hv0 c2 HP
    go_enter Try.func32, Try.ntmps32
    go_wp2
    go_ret
    exact ⟨rfl, q, HR.out⟩
end Go.Proofs.Yteopbeafhhfdoaa
