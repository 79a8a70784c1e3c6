/- Room, Forget, copied, Records, Waiting. -/
import Derived.Test.YtpcbolmidnoaiaaJOpen
set_option linter.unusedVariables false
set_option linter.unusedSimpArgs false
namespace Go.Proofs.Ytpcbolmidnoaiaa
open Go.RowKit Go.Shelf
/-- Appending one slice that lies in a block just built. -/
theorem wpList_push {w : World} {ops : Array Oper} {rest : List Oper} {o : Oper} {a : Act} {Q : Exit → Act → World → Prop} (base : Nat) (hgd : o.guard = none) {s x : Operand}
    (ho : o.op = .call { callee := .builtin .append, args := #[s, x], argTypes := #[22, 22] }) {v : Value} {rs : List Sl} (hs : a.eval s = v) {g : Nat} (hx : a.eval x = .slice (some ⟨g, 0, none⟩) 1 1)
    (h : SlsAt base w v rs) (r : Sl) (hr : Own8 base w r.v r.L) (hg : w.cell? ⟨g, 0, none⟩ = some r.v) (hl : rs.length ≤ 10000000) (hb : base ≤ w.heap.size)
    (hk : ∀ v' w', SlsAt base w' v' (rs ++ [r]) → w.grownBy w' v.ownBlock → wpList Try.prog ops Q rest (a.put o.dst v') w') : wpList Try.prog ops Q (o :: rest) a w := by
  obtain ⟨v', w', hrun, h1, h2⟩ := run_push base o.type w v rs h r hr g hg hl hb
  exact wpList_run hgd (exec_app ho hs hx hrun) (hk v' w' h1 h2)
set_option maxRecDepth 100000 in
theorem room_any (p : Pl) (d : Dv) (j : JPl) (J : Jv) (w : World) (hd : DevAt w p d) (h : JAt w p.D j J) (hl : d.safe.length = J.len) :
    Calls Try.prog 20 #[ptr j.B] w fun e w' => e = .returned (.int .i64 (roomN J : Nat)) ∧ ∃ m, w' = w.drewN m := by
  have hmx : Try.prog.follows .mixedOrders = true := by kernel_rfl
  have HM := Lib.hid (jmade_any h)
  have hcp := capacity_any p d w.drew (hd.below (Below.refl _ _).drew) (by rw [hl]; exact h.ok.len.1)
  rw [hl] at hcp
  have q1 : (fun Z : World => Z.cell? ⟨j.B, 0, none⟩ = some (ptr p.D) ∧ Z.cell? ⟨j.B, 2, none⟩ = some (.int .i64 (sizeN J.recs : Nat)) ∧ Z.cell? ⟨j.B, 5, none⟩ = some (.int .i64 (sizeN J.wait : Nat))) w.drew := ⟨h.jr.cell 0, h.jr.cell 2, h.jr.cell 5⟩
  have hf := h.ok.fits
  have hln := h.ok.len
  unfold roomN
  generalize sizeN J.recs = a at *
  generalize sizeN J.wait = b at *
  have hc9 : (J.len - 2) * 128 ≤ 600000 := by omega
  generalize (J.len - 2) * 128 = c at *
  have hcc : (c : Int) < 9223372036854775807 := by omega
  have W1 := Lib.hid (show IntKind.i64.wrap ((c : Int) - (a : Int)) = ((c - a : Nat) : Int) by rw [IntKind.wrap_i64]; omega)
  have W2 := Lib.hid (show IntKind.i64.wrap (((c - a : Nat) : Int) - (b : Int)) = ((c - a - b : Nat) : Int) by rw [IntKind.wrap_i64]; omega)
  have HCP := Lib.hid hcp
  clear hcp hd h hl hf hln hcc hc9
  go_enter Try.func20, Try.ntmps20
  go_wp2_with (first | (go_at_call 35; refine HM.out.mono ?_; rintro e w' ⟨rfl, rfl⟩) | fail)
  refine regionL (fun Z : World => Z.cell? ⟨j.B, 0, none⟩ = some (ptr p.D) ∧ Z.cell? ⟨j.B, 2, none⟩ = some (.int .i64 (a : Int)) ∧ Z.cell? ⟨j.B, 5, none⟩ = some (.int .i64 (b : Int))) 15 (by kernel_rfl) ?_
  refine takeL (i := 0) (oi := { dst := some 6, op := Go.Op.move (Go.Operand.tmp 0), type := 31, pos := "journal.go:131", after := #[], guard := none }) (v := .pointer (some ⟨j.B, 0, none⟩)) [15, 14, 9, 4, 3, 2, 1] rfl (by kernel_rfl) (by kernel_rfl) (by kernel_rfl) (by kernel_rfl) (fun _ _ _ h => calm_panic h) rfl ?_ q1 ?_
  · intro Z hZ; go_simp
  simp only [Act.put, List.setIfInBounds_toArray, List.set_cons_zero, List.set_cons_succ]
  refine takeL (i := 1) (oi := { dst := some 7, op := Go.Op.nilCheck (Go.Operand.tmp 6), type := 0, pos := "journal.go:131", after := #[{ on := 0, ground := Go.Ground.data }], guard := none }) (v := .pointer (some ⟨j.B, 0, none⟩)) [15, 14, 9, 4, 3, 2] rfl (by kernel_rfl) (by kernel_rfl) (by kernel_rfl) (by kernel_rfl) (fun _ _ _ h => calm_panic h) rfl ?_ q1 ?_
  · intro Z hZ; go_simp
  simp only [Act.put, List.setIfInBounds_toArray, List.set_cons_zero, List.set_cons_succ]
  refine takeL (i := 2) (oi := { dst := some 8, op := Go.Op.fieldAddr 72 (Go.Operand.tmp 7) 0, type := 0, pos := "journal.go:131", after := #[{ on := 1, ground := Go.Ground.data }], guard := none }) (v := .pointer (some ⟨j.B, 0, none⟩)) [15, 14, 9, 4, 3] rfl (by kernel_rfl) (by kernel_rfl) (by kernel_rfl) (by kernel_rfl) (fun _ _ _ h => calm_panic h) rfl ?_ q1 ?_
  · intro Z hZ; go_simp
  simp only [Act.put, List.setIfInBounds_toArray, List.set_cons_zero, List.set_cons_succ]
  refine takeL (i := 3) (oi := { dst := some 9, op := Go.Op.load 27 (Go.Operand.tmp 8), type := 27, pos := "journal.go:131", after := #[{ on := 2, ground := Go.Ground.data }], guard := none }) (v := ptr p.D) [15, 14, 9, 4] rfl (by kernel_rfl) (by kernel_rfl) (by kernel_rfl) (by kernel_rfl) (fun _ _ _ h => calm_panic h) rfl ?_ q1 ?_
  · intro Z hZ; obtain ⟨z1, z2, z3⟩ := hZ; go_simp
  simp only [Act.put, List.setIfInBounds_toArray, List.set_cons_zero, List.set_cons_succ]
  refine takeL (i := 5) (oi := { dst := some 11, op := Go.Op.move (Go.Operand.tmp 0), type := 31, pos := "journal.go:131", after := #[], guard := none }) (v := .pointer (some ⟨j.B, 0, none⟩)) [15, 14, 9, 8, 7, 6] rfl (by kernel_rfl) (by kernel_rfl) (by kernel_rfl) (by kernel_rfl) (fun _ _ _ h => calm_panic h) rfl ?_ q1 ?_
  · intro Z hZ; go_simp
  simp only [Act.put, List.setIfInBounds_toArray, List.set_cons_zero, List.set_cons_succ]
  refine takeL (i := 6) (oi := { dst := some 12, op := Go.Op.nilCheck (Go.Operand.tmp 11), type := 0, pos := "journal.go:131", after := #[{ on := 5, ground := Go.Ground.data }], guard := none }) (v := .pointer (some ⟨j.B, 0, none⟩)) [15, 14, 9, 8, 7] rfl (by kernel_rfl) (by kernel_rfl) (by kernel_rfl) (by kernel_rfl) (fun _ _ _ h => calm_panic h) rfl ?_ q1 ?_
  · intro Z hZ; go_simp
  simp only [Act.put, List.setIfInBounds_toArray, List.set_cons_zero, List.set_cons_succ]
  refine takeL (i := 7) (oi := { dst := some 13, op := Go.Op.fieldAddr 72 (Go.Operand.tmp 12) 2, type := 0, pos := "journal.go:131", after := #[{ on := 6, ground := Go.Ground.data }], guard := none }) (v := .pointer (some ⟨j.B, 2, none⟩)) [15, 14, 9, 8] rfl (by kernel_rfl) (by kernel_rfl) (by kernel_rfl) (by kernel_rfl) (fun _ _ _ h => calm_panic h) rfl ?_ q1 ?_
  · intro Z hZ; go_simp
  simp only [Act.put, List.setIfInBounds_toArray, List.set_cons_zero, List.set_cons_succ]
  refine takeL (i := 8) (oi := { dst := some 14, op := Go.Op.load 3 (Go.Operand.tmp 13), type := 3, pos := "journal.go:131", after := #[{ on := 7, ground := Go.Ground.data }], guard := none }) (v := .int .i64 (a : Int)) [15, 14, 9] rfl (by kernel_rfl) (by kernel_rfl) (by kernel_rfl) (by kernel_rfl) (fun _ _ _ h => calm_panic h) rfl ?_ q1 ?_
  · intro Z hZ; obtain ⟨z1, z2, z3⟩ := hZ; go_simp
  simp only [Act.put, List.setIfInBounds_toArray, List.set_cons_zero, List.set_cons_succ]
  refine takeL (i := 10) (oi := { dst := some 16, op := Go.Op.move (Go.Operand.tmp 0), type := 31, pos := "journal.go:131", after := #[], guard := none }) (v := .pointer (some ⟨j.B, 0, none⟩)) [15, 14, 13, 12, 11] rfl (by kernel_rfl) (by kernel_rfl) (by kernel_rfl) (by kernel_rfl) (fun _ _ _ h => calm_panic h) rfl ?_ q1 ?_
  · intro Z hZ; go_simp
  simp only [Act.put, List.setIfInBounds_toArray, List.set_cons_zero, List.set_cons_succ]
  refine takeL (i := 11) (oi := { dst := some 17, op := Go.Op.nilCheck (Go.Operand.tmp 16), type := 0, pos := "journal.go:131", after := #[{ on := 10, ground := Go.Ground.data }], guard := none }) (v := .pointer (some ⟨j.B, 0, none⟩)) [15, 14, 13, 12] rfl (by kernel_rfl) (by kernel_rfl) (by kernel_rfl) (by kernel_rfl) (fun _ _ _ h => calm_panic h) rfl ?_ q1 ?_
  · intro Z hZ; go_simp
  simp only [Act.put, List.setIfInBounds_toArray, List.set_cons_zero, List.set_cons_succ]
  refine takeL (i := 12) (oi := { dst := some 18, op := Go.Op.fieldAddr 72 (Go.Operand.tmp 17) 5, type := 0, pos := "journal.go:131", after := #[{ on := 11, ground := Go.Ground.data }], guard := none }) (v := .pointer (some ⟨j.B, 5, none⟩)) [15, 14, 13] rfl (by kernel_rfl) (by kernel_rfl) (by kernel_rfl) (by kernel_rfl) (fun _ _ _ h => calm_panic h) rfl ?_ q1 ?_
  · intro Z hZ; go_simp
  simp only [Act.put, List.setIfInBounds_toArray, List.set_cons_zero, List.set_cons_succ]
  refine takeL (i := 13) (oi := { dst := some 19, op := Go.Op.load 3 (Go.Operand.tmp 18), type := 3, pos := "journal.go:131", after := #[{ on := 12, ground := Go.Ground.data }], guard := none }) (v := .int .i64 (b : Int)) [15, 14] rfl (by kernel_rfl) (by kernel_rfl) (by kernel_rfl) (by kernel_rfl) (fun _ _ _ h => calm_panic h) rfl ?_ q1 ?_
  · intro Z hZ; obtain ⟨z1, z2, z3⟩ := hZ; go_simp
  simp only [Act.put, List.setIfInBounds_toArray, List.set_cons_zero, List.set_cons_succ]
  refine oneL (i := 4) (o := { dst := some 10, op := Go.Op.call { callee := Go.Callee.value (Go.Operand.func 27), args := #[Go.Operand.tmp 9], argTypes := #[27] }, type := 3, pos := "journal.go:131", after := #[{ on := 3, ground := Go.Ground.data }], guard := none }) rfl (by kernel_rfl) rfl ?_
  refine wp_by_call (f := 27) (args := #[ptr p.D]) (by go_simp) (HCP.out.mono ?_)
  rintro e Z ⟨rfl, rfl⟩
  refine ⟨_, rfl, fun _ => q1, ?_⟩
  simp only [Act.put, List.setIfInBounds_toArray, List.set_cons_zero, List.set_cons_succ]
  refine takeL (i := 9) (oi := { dst := some 15, op := Go.Op.binOp Go.BinOp.sub 3 (Go.Operand.tmp 10) (Go.Operand.tmp 14) 3, type := 3, pos := "journal.go:131", after := #[{ on := 4, ground := Go.Ground.data }, { on := 8, ground := Go.Ground.data }], guard := none }) (v := .int .i64 ((c - a : Nat) : Int)) [15, 14] rfl (by kernel_rfl) (by kernel_rfl) (by kernel_rfl) (by kernel_rfl) (fun _ _ _ h => calm_panic h) rfl ?_ q1 ?_
  · intro Z hZ; have w1 := W1.out; go_simp
  simp only [Act.put, List.setIfInBounds_toArray, List.set_cons_zero, List.set_cons_succ]
  refine takeL (i := 14) (oi := { dst := some 20, op := Go.Op.binOp Go.BinOp.sub 3 (Go.Operand.tmp 15) (Go.Operand.tmp 19) 3, type := 3, pos := "journal.go:131", after := #[{ on := 9, ground := Go.Ground.data }, { on := 13, ground := Go.Ground.data }], guard := none }) (v := .int .i64 ((c - a - b : Nat) : Int)) [15] rfl (by kernel_rfl) (by kernel_rfl) (by kernel_rfl) (by kernel_rfl) (fun _ _ _ h => calm_panic h) rfl ?_ q1 ?_
  · intro Z hZ; have w2 := W2.out; go_simp
  simp only [Act.put, List.setIfInBounds_toArray, List.set_cons_zero, List.set_cons_succ]
  refine oneL (i := 15) (o := { dst := some 2, op := Go.Op.assign (Go.Operand.tmp 20), type := 3, pos := "journal.go:131", after := #[{ on := 14, ground := Go.Ground.data }, { on := 4, ground := Go.Ground.chain }, { on := 0, ground := Go.Ground.phase }, { on := 1, ground := Go.Ground.phase }, { on := 2, ground := Go.Ground.phase }, { on := 3, ground := Go.Ground.phase }, { on := 4, ground := Go.Ground.phase }, { on := 5, ground := Go.Ground.phase }, { on := 6, ground := Go.Ground.phase }, { on := 7, ground := Go.Ground.phase }, { on := 8, ground := Go.Ground.phase }, { on := 9, ground := Go.Ground.phase }, { on := 10, ground := Go.Ground.phase }, { on := 11, ground := Go.Ground.phase }, { on := 12, ground := Go.Ground.phase }, { on := 13, ground := Go.Ground.phase }, { on := 14, ground := Go.Ground.phase }], guard := none }) rfl (by kernel_rfl) rfl ?_
  refine wp_by_run (w' := w.drew) (v := .int .i64 ((c - a - b : Nat) : Int)) (by go_simp) ⟨fun h => absurd rfl h, ?_⟩
  simp only [Act.put, List.setIfInBounds_toArray, List.set_cons_zero, List.set_cons_succ]
  refine doneL (by kernel_rfl) (Calm.normal ?_) _
  go_wp2
  go_ret
  exact ⟨rfl, 1, rfl⟩
/-- The waiting records are gone. -/
def Jv.forget (J : Jv) : Jv := { J with wait := [] }
theorem forget_any {w : World} {D : Nat} (j : JPl) (J : Jv) (h : JAt w D j J) :
    Calls Try.prog 21 #[ptr j.B] w fun e w' => e = .returned (.int .i64 (J.wait.length : Nat)) ∧ ∃ j', JAt w' D j' J.forget ∧ j'.B = j.B ∧ j'.vR = j.vR ∧ j'.vW = (Value.slice none 0 0) ∧ Upd (fun k => k = j.B) w w' := by
  obtain ⟨a, c, e, _, _⟩ := h.waitBss
  have c4 : w.cell? ⟨j.B, 4, none⟩ = some (.slice a J.wait.length c) := by rw [← e]; exact h.jr.cell 4
  have f4 := h.jr.free 4
  have f5 := h.jr.free 5
  have c5 : w.cell? ⟨j.B, 5, none⟩ = some (.int .i64 (sizeN J.wait : Nat)) := h.jr.cell 5
  have hu : Upd (fun k => k = j.B) w ((w.setCell ⟨j.B, 4, none⟩ (Value.slice none 0 0)).setCell ⟨j.B, 5, none⟩ (.int .i64 0)) := ((Upd.refl (fun k => k = j.B) w).setCell (p := ⟨j.B, 4, none⟩) (.inl rfl) _).setCell (p := ⟨j.B, 5, none⟩) (.inl rfl) _
  have h8 : ∀ k cs fr, w.heap[k]? = some (.cells cs 5 fr) → ¬ (k = j.B) := fun k cs fr hk e => h.not8 hk (.inl e)
  have hne : ∀ k, j.vR.ownBlock = some k → ¬ (k = j.B) := fun k hk e => by
    rcases h.recs.row.2 with ⟨e1, _⟩ | ⟨g, cap, cur, e1, _, hh, _⟩
    · rw [e1] at hk; cases hk
    · rw [e1] at hk
      have e2 : g = k := Option.some.inj hk
      have h3 := h.jr
      unfold At at h3
      rw [← e, ← e2, hh] at h3
      simp at h3
  have HR := Lib.hid (show ∃ j', JAt ((w.setCell ⟨j.B, 4, none⟩ (Value.slice none 0 0)).setCell ⟨j.B, 5, none⟩ (.int .i64 0)) D j' J.forget ∧ j'.B = j.B ∧ j'.vR = j.vR ∧ j'.vW = (Value.slice none 0 0) ∧ Upd (fun k => k = j.B) w ((w.setCell ⟨j.B, 4, none⟩ (Value.slice none 0 0)).setCell ⟨j.B, 5, none⟩ (.int .i64 0)) from
    ⟨⟨j.B, j.vR, (Value.slice none 0 0), j.vP, j.rs, []⟩, ⟨(h.jr.set 4 (Value.slice none 0 0)).set 5 (.int .i64 0), sls_kept h.recs hu hne h8, SlsAt.nil 0 _, own8_kept h.part hu h8, h.rl, rfl, fun k _ e => (by cases e),
      ⟨h.ok.recs, fun L hL => (by cases hL), h.ok.place, h.ok.num, h.ok.top, h.ok.len, (by have := h.ok.fits; show sizeN J.recs + 0 ≤ (J.len - 2) * 128; omega)⟩⟩, rfl, rfl, rfl, hu⟩)
  have HM := Lib.hid (jmade_any h)
  clear h hu h8 hne e
  go_enter Try.func21, Try.ntmps21
  go_wp2_with (first | (go_at_call 35; refine HM.out.mono ?_; rintro e w' ⟨rfl, rfl⟩) | fail)
  go_ret
  exact ⟨rfl, HR.out⟩
theorem copied_step {w wr w1 : World} {vs : Value} {rs : List Sl} {a3 : Option Addr} {c3 m : Nat} {L : List Int} (hS : SlsAt w.heap.size wr vs rs) (hB : Below w.heap.size w wr) (hO : Own8 wr.heap.size w1 (.slice a3 m c3) L) (hb : Below wr.heap.size wr w1) (hm : L.length = m) :
    SlsAt w.heap.size (w1.alloc (.cells #[.slice a3 m c3] 23)) vs rs ∧ Own8 w.heap.size (w1.alloc (.cells #[.slice a3 m c3] 23)) (Sl.v ⟨a3, c3, L⟩) L ∧ (w1.alloc (.cells #[.slice a3 m c3] 23)).cell? ⟨w1.heap.size, 0, none⟩ = some (Sl.v ⟨a3, c3, L⟩) ∧ Below w.heap.size w (w1.alloc (.cells #[.slice a3 m c3] 23)) := by
  have ba : Below w1.heap.size w1 (w1.alloc (.cells #[.slice a3 m c3] 23)) := (Below.refl _ _).alloc (Nat.le_refl _) _
  have s1 := hB.size
  have s2 := hb.size
  have hv : Sl.v ⟨a3, c3, L⟩ = .slice a3 m c3 := by show Value.slice a3 L.length c3 = _; rw [hm]
  rw [hv]
  exact ⟨(hS.below hb (Nat.le_refl _)).below ba (Nat.le_refl _), (hO.below ba (Nat.le_refl _)).le s1, (At.new 23 w1 #[.slice a3 m c3]).cell 0, hB.trans ((hb.mono s1).trans (ba.mono (by omega)))⟩
theorem meas_succ {K k : Nat} (h : k < K) (w : wrap64 ((k : Int) + 1) = ((k + 1 : Nat) : Int)) : ((K : Int) - intOf (.int .i64 (wrap64 ((k : Int) + 1)))).toNat < ((K : Int) - intOf (.int .i64 (k : Int))).toNat := by
  rw [w]
  clear w
  show ((K : Int) - ((k + 1 : Nat) : Int)).toNat < ((K : Int) - ((k : Nat) : Int)).toNat
  omega
def CopiedE (ls : List (List Int)) (w : World) (e : Ending) (w' : World) : Prop := ∃ v, e = .returned v ∧ OwnS w w' v ls ∧ Below w.heap.size w w'
set_option maxRecDepth 100000 in
set_option maxHeartbeats 1000000 in
theorem copied_any (a : Option Addr) (n c : Nat) (ls : List (List Int)) (w : World) (h : BssAt w.heap.size w a ls) (hn : ls.length = n) (hl : n ≤ 1000000) (hs : ∀ L ∈ ls, L.length ≤ 1000000) :
    Calls Try.prog 36 #[.slice a n c] w (CopiedE ls w) := by
  have HX := Lib.hid h
  have HL := Lib.hid (And.intro hn (And.intro hl hs))
  unfold CopiedE OwnS
  clear h hn hl hs
  go_enter Try.func36, Try.ntmps36
  go_wp2_with fail
  go_loopw [3, 8] (fun s i wr => ∃ (k : Nat) (rs : List Sl), k ≤ n ∧ i = .int .i64 (k : Int) ∧ SlsAt w.heap.size wr s rs ∧ rs.map Sl.L = ls.take k ∧ Below w.heap.size w wr) (fun _ i _ => (n - intOf i).toNat)
  case atStart => exact ⟨0, [], Nat.zero_le _, rfl, SlsAt.nil _ _, rfl, Below.refl _ _⟩
  case round =>
    rename_i vs iv
    obtain ⟨k, rs, hk, rfl, hS, hm, hB⟩ := hrel
    by_cases hlt : k < n
    · have i1 : (k : Int) < n := by omega
      have in0 : (0 : Int) ≤ (k : Int) := by omega
      have wk := wrap_succ (k := k) (by have := HL.out; omega)
      obtain ⟨b, o, a2, c2, rfl, hb, h0, h1, h2⟩ := (HX.out.next hB (Nat.le_refl _)).at k (by have := HL.out; omega)
      have hmem : ls.getD k [] ∈ ls := by
        rw [show ls.getD k [] = ls[k]'(by have := HL.out; omega) by simp [List.getD, show k < ls.length by have := HL.out; omega]]
        exact List.getElem_mem _
      have hl5 := HL.out.2.2 _ hmem
      have htk : ls.take (k + 1) = ls.take k ++ [ls.getD k []] := by
        rw [List.take_succ_eq_append_getElem (by have := HL.out; omega)]
        simp [List.getD, show k < ls.length by have := HL.out; omega]
      have hrl : rs.length ≤ 10000000 := by
        have := congrArg List.length hm
        rw [List.length_map, List.length_take] at this
        have := HL.out; omega
      generalize ls.getD k [] = L at *
      have HC := Lib.hid (clone_any a2 L.length c2 L wr h2 hB.size hl5)
      obtain ⟨m, hm2⟩ : ∃ m, L.length = m := ⟨_, rfl⟩
      have HML := Lib.hid hm2
      unfold Made at HC
      rw [hm2] at HC h0
      have HS := Lib.hid (And.intro hS (And.intro hm (And.intro hB (And.intro hrl htk))))
      have HK := Lib.hid hlt
      clear hS hm hB hlt hk hmem hl5 htk hrl h1 h2 hm2 hb
      go_wp2_with (first
        | (go_at_call 32; refine HC.out.mono ?_; rintro e w1 ⟨a3, c3, rfl, hO3, hB3⟩; have HS1 := Lib.hid (copied_step HS.out.1 HS.out.2.2.1 hO3 hB3 HML.out); clear hO3 hB3)
        | (refine wpList_push w.heap.size rfl rfl rfl rfl HS1.out.1 ⟨a3, c3, L⟩ HS1.out.2.1 HS1.out.2.2.1 HS.out.2.2.2.1 HS1.out.2.2.2.size ?_; intro v' w' hS' hB'; have HN := Lib.hid (And.intro hS' hB'); clear hS' hB')
        | fail)
      go_roundw
      case rel => exact ⟨k + 1, rs ++ [⟨a3, c3, L⟩], HK.out, by first | rfl | rw [wk], HN.out.1, by rw [List.map_append, HS.out.2.1, HS.out.2.2.2.2]; rfl, HS1.out.2.2.2.grown HN.out.2 HS1.out.2.2.2.size (fun r e => (HS1.out.1.blk r e).1)⟩
      case measure => exact meas_succ HK.out wk
    · have i1 : ¬ (k : Int) < n := by omega
      have hkn : k = n := by omega
      have HR := Lib.hid (And.intro hS (And.intro (show rs.map Sl.L = ls by rw [hm, List.take_of_length_le (by have := HL.out; omega)]) hB))
      clear hS hm hB hlt hk hkn
      go_wp2
      go_ret
      exact ⟨_, rfl, ⟨rs, HR.out.1, HR.out.2.1⟩, HR.out.2.2⟩
end Go.Proofs.Ytpcbolmidnoaiaa
