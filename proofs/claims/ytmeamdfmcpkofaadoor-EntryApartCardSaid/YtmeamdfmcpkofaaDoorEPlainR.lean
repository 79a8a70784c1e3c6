/- What plainOf's first region leaves, whatever order it draws. -/
import Derived.Test.YtmeamdfmcpkofaaDoorEPut
set_option linter.unusedVariables false
set_option linter.unusedSimpArgs false
namespace Go.Proofs.YtmeamdfmcpkofaaDoor
open Go.RowKit Go.Shelf
attribute [local go_sem] Oper.semAt_some
section
variable {P : Program} {ops : Array Oper} {Q : Exit → Act → World → Prop} {md : Region.Mode} {S : World → Prop} {z : Nat}
theorem threeL {i j k : Nat} {o o' o'' : Oper} {m : Nat} {listed : Array Bool} {a : Act} {w : World} (hi : ops[i]? = some o) (hj : ops[j]? = some o') (hk : ops[k]? = some o'') (hr : Region.ready md ops listed = [i, j, k]) (hg : o.guard = none) (hg' : o'.guard = none) (hg'' : o''.guard = none)
    (h : o.wp P a w (fun a' w' => (i ≠ z → S w') ∧ AnyL P md ops Q S z m (listed.setIfInBounds i true) a' w') Q) (h' : o'.wp P a w (fun a' w' => (j ≠ z → S w') ∧ AnyL P md ops Q S z m (listed.setIfInBounds j true) a' w') Q)
    (h'' : o''.wp P a w (fun a' w' => (k ≠ z → S w') ∧ AnyL P md ops Q S z m (listed.setIfInBounds k true) a' w') Q) : AnyL P md ops Q S z (m + 1) listed a w := by
  refine ⟨fun h0 => (by rw [hr] at h0; cases h0), fun l hl => ?_⟩
  rw [hr] at hl
  rcases (by simpa using hl : l = i ∨ l = j ∨ l = k) with rfl | rfl | rfl
  · unfold wpOp
    simp only [hi]
    rw [if_pos (by simp [Region.wanted, hg])]
    exact .inl h
  · unfold wpOp
    simp only [hj]
    rw [if_pos (by simp [Region.wanted, hg'])]
    exact .inl h'
  · unfold wpOp
    simp only [hk]
    rw [if_pos (by simp [Region.wanted, hg''])]
    exact .inl h''
end
theorem exec_make {o : Oper} {a : Act} {x y : Operand} {T : TypeId} {u v r : Value} {w w' : World} (ho : o.op = .makeSlice T x y) (hx : a.eval x = u) (hy : a.eval y = v) (h : (Instr.makeSlice T u v).run Tryd.prog w = .ok r w') : (execOp a.eval o).run Tryd.prog w = .ok (.value r) w' := by
  unfold execOp
  simp only [ho, hx, hy, Sem.run_bind, h, Result.andThen_ok, Sem.run_pure]
theorem make_any (n : Nat) (hn : n ≤ 1000) (B : Nat) (X : World) (hB : B ≤ X.heap.size) : ∃ X', (Instr.makeSlice 28 (.int .i64 0) (.int .i64 (n : Int))).run Tryd.prog X = .ok (.slice (some ⟨X.heap.size, 0, none⟩) 0 n) X' ∧ Own8 B X' (.slice (some ⟨X.heap.size, 0, none⟩) 0 n) [] ∧ Below X.heap.size X X' := by
  obtain ⟨i, hi, hz, hs, hby⟩ := parts8
  obtain ⟨X', h1, h2, h3⟩ := run_make_own (P := Tryd.prog) (w := X) B 28 5 i (.int .u8 0) 1 Tryd.underlying28 hi hz hs .i64 .i64 n (by rw [hby]; omega) (by unfold maxLen; omega) hB
  exact ⟨X', h1, ⟨by simp, h2⟩, ⟨h3.os, h3.tape, h3.output, h3.size, fun k hk => h3.block k hk (by simp)⟩⟩
/-- What stands behind some of the operations that make memory. -/
structure RP (W0 X : World) (y : Int) (s3 : Option Value) (s7 : Option Nat) (s9 : Option Nat) (s8 : Option Value) : Prop where
  below : Below W0.heap.size W0 X
  h3 : ∀ v, s3 = some v → Own8 W0.heap.size X v []
  h7 : ∀ g, s7 = some g → W0.heap.size ≤ g ∧ X.cell? ⟨g, 0, none⟩ = some (.int .u8 y)
  h9 : ∀ b, s9 = some b → W0.heap.size ≤ b ∧ At 28 X b #[.slice none 0 0]
  h8 : ∀ v, s8 = some v → Own8 W0.heap.size X v [y]
section
variable {W0 X : World} {y : Int} {s3 : Option Value} {s7 s9 : Option Nat} {s8 : Option Value}
theorem RP.next (h : RP W0 X y s3 s7 s9 s8) {X' : World} (hb : Below X.heap.size X X') : RP W0 X' y s3 s7 s9 s8 :=
  ⟨h.below.trans (hb.mono h.below.size), fun v e => (h.h3 v e).below hb (Nat.le_refl _), fun g e => ⟨(h.h7 g e).1, (hb.cell (p := ⟨g, 0, none⟩) (cell_lt (h.h7 g e).2)).trans (h.h7 g e).2⟩, fun b e => ⟨(h.h9 b e).1, (hb.block b (h.h9 b e).2.lt).trans (h.h9 b e).2⟩, fun v e => (h.h8 v e).below hb (Nat.le_refl _)⟩
theorem RP.three (h : RP W0 X y none s7 s9 s8) {X' : World} {v : Value} (hb : Below X.heap.size X X') (hv : Own8 W0.heap.size X' v []) : RP W0 X' y (some v) s7 s9 s8 :=
  { h.next hb with h3 := fun v' e => by cases e; exact hv }
theorem RP.seven (h : RP W0 X y s3 none s9 s8) : RP W0 (X.alloc (.cells #[.int .u8 y] 5)) y s3 (some X.heap.size) s9 s8 :=
  { h.next ((Below.refl _ X).alloc (Nat.le_refl _) _) with h7 := fun g e => by cases e; exact ⟨h.below.size, cell_of_row _ _ 0 _ _ _ (World.alloc_heap_new X _)⟩ }
theorem RP.nine (h : RP W0 X y s3 s7 none s8) : RP W0 (X.alloc (.cells #[.slice none 0 0] 28)) y s3 s7 (some X.heap.size) s8 :=
  { h.next ((Below.refl _ X).alloc (Nat.le_refl _) _) with h9 := fun g e => by cases e; exact ⟨h.below.size, World.alloc_heap_new X _⟩ }
theorem RP.eight {v : Value} {g : Nat} (h : RP W0 X y (some v) (some g) s9 none) (hy : 0 ≤ y ∧ y < 256) : ∃ v' X', (Builtin.append_ #[28, 28] 28 #[v, .slice (some ⟨g, 0, none⟩) 1 1]).run Tryd.prog X = .ok v' X' ∧ RP W0 X' y none none s9 (some v') := by
  obtain ⟨g0, hc⟩ := h.h7 g rfl
  have hO := h.h3 v rfl
  obtain ⟨v', X', hr, h1, h2, h3⟩ := run_appN W0.heap.size 28 X v [] hO ⟨g, 0, none⟩ 1 [y] (fun x hx => by rw [List.mem_singleton.1 hx]; exact hy) (fun j u hu => by
    have hj : j = 0 := by have := (List.getElem?_eq_some_iff.1 hu).1; simp [vals8] at this; omega
    subst hj
    simp [vals8] at hu
    subst hu
    exact hc) (by simp) h.below.size
  refine ⟨v', X', hr, ⟨h.below.trans ⟨h2.os, h2.tape, h2.output, h2.size, fun k hk => h2.block k (by have := h.below.size; omega) (fun e => by have := hO.row k e.symm; omega)⟩, fun v e => (by cases e), fun g e => (by cases e), fun b e => ⟨(h.h9 b e).1, (h2.block b (h.h9 b e).2.lt (own_ne (v0 := v) (h.h9 b e).2 (by decide) hO)).trans (h.h9 b e).2⟩, fun v e => (by cases e; exact h1)⟩⟩
theorem RP.store {v : Value} {b : Nat} (h : RP W0 X y none none (some b) (some v)) : X.cell? ⟨b, 0, none⟩ = some (.slice none 0 0) ∧ X.frozen? ⟨b, 0, none⟩ = false ∧ v.oneCell' = true ∧
    (Below W0.heap.size W0 (X.setCell ⟨b, 0, none⟩ v) ∧ W0.heap.size ≤ b ∧ At 28 (X.setCell ⟨b, 0, none⟩ v) b #[v] ∧ Own8 W0.heap.size (X.setCell ⟨b, 0, none⟩ v) v [y]) := by
  obtain ⟨hb, hA⟩ := h.h9 b rfl
  have hO := h.h8 v rfl
  have hne := own_ne (v0 := v) hA (by decide) hO
  refine ⟨hA.cell 0, hA.free 0, ?_, h.below.setCell (p := ⟨b, 0, none⟩) hb _, hb, hA.set 0 v, ?_⟩
  · obtain ⟨a, c, rfl⟩ := hO.form; rfl
  · refine ⟨hO.1, hO.2.1, ?_⟩
    rcases hO.2.2 with e | ⟨g, cap, cur, rfl, hg, hh, r⟩
    · exact .inl e
    · refine .inr ⟨g, cap, cur, rfl, hg, (heap_setCell_other _ ⟨b, 0, none⟩ g _ (fun e => hne (by simp [Value.ownBlock]; exact e.symm))).trans hh, r⟩
end
set_option maxRecDepth 100000 in
set_option maxHeartbeats 4000000 in
theorem region_plain {n : Nat} {Q : Exit → Act → World → Prop} (k ln : Nat) (hln : ln ≤ 1000) (hk : lenK (k : Int) = ln) (hk9 : k ≤ 255) (xs : Array Value) (b0 : Nat) (y : Int) (hy : IntKind.u8.wrap (k : Int) = y) (W : World) (hT : TabE W) (hc : W.cell? ⟨b0, 0, none⟩ = some (.int .i64 (k : Int)))
    (hK : ∀ (b : Nat) (u12 u16 v : Value) (X : World), Below W.heap.size W X ∧ W.heap.size ≤ b ∧ At 28 X b #[v] ∧ Own8 W.heap.size X v [y] → Q .normal { tmps := #[.agg xs, .pointer (some ⟨b0, 0, none⟩), .slice none 0 0, .bool false, .pointer (some ⟨b, 0, none⟩), undef, undef, undef, undef, .pointer (some ⟨b0, 0, none⟩), .int .i64 (k : Int), .int .i64 (ln : Nat), u12, .pointer (some ⟨b0, 0, none⟩), .int .i64 (k : Int), .int .u8 y, u16, v, undef, undef, undef, undef, undef, undef, undef, undef, undef, undef, undef, undef, undef, undef, undef, undef, undef, undef, undef, undef], defers := [] } X) :
    (Code.region 1 #[{ dst := some 9, op := Go.Op.fieldAddr 27 (Go.Operand.tmp 1) 0, type := 0, pos := "entry.go:248", after := #[], guard := none }, { dst := some 10, op := Go.Op.load 3 (Go.Operand.tmp 9), type := 3, pos := "entry.go:248", after := #[{ on := 0, ground := Go.Ground.data }], guard := none }, { dst := some 11, op := Go.Op.call { callee := Go.Callee.value (Go.Operand.func 26), args := #[Go.Operand.tmp 10], argTypes := #[3] }, type := 3, pos := "entry.go:248", after := #[{ on := 1, ground := Go.Ground.data }], guard := none }, { dst := some 12, op := Go.Op.makeSlice 28 (Go.Operand.const (Go.Value.int Go.IntKind.i64 0)) (Go.Operand.tmp 11), type := 28, pos := "entry.go:248", after := #[{ on := 2, ground := Go.Ground.data }], guard := none }, { dst := some 13, op := Go.Op.fieldAddr 27 (Go.Operand.tmp 1) 0, type := 0, pos := "entry.go:248", after := #[], guard := none }, { dst := some 14, op := Go.Op.load 3 (Go.Operand.tmp 13), type := 3, pos := "entry.go:248", after := #[{ on := 4, ground := Go.Ground.data }], guard := none }, { dst := some 15, op := Go.Op.convert 3 5 (Go.Operand.tmp 14), type := 5, pos := "entry.go:248", after := #[{ on := 5, ground := Go.Ground.data }], guard := none }, { dst := some 16, op := Go.Op.buildSlice 28 1 #[(0, Go.Operand.tmp 15)], type := 28, pos := "entry.go:248", after := #[{ on := 6, ground := Go.Ground.data }], guard := none }, { dst := some 17, op := Go.Op.call { callee := Go.Callee.builtin Go.Builtin.append, args := #[Go.Operand.tmp 12, Go.Operand.tmp 16], argTypes := #[28, 28] }, type := 28, pos := "entry.go:248", after := #[{ on := 3, ground := Go.Ground.data }, { on := 7, ground := Go.Ground.data }, { on := 2, ground := Go.Ground.chain }], guard := none }, { dst := some 4, op := Go.Op.alloc 28, type := 0, pos := "entry.go:248", after := #[], guard := none }, { dst := none, op := Go.Op.store 28 (Go.Operand.tmp 4) (Go.Operand.tmp 17), type := 0, pos := "entry.go:248", after := #[{ on := 9, ground := Go.Ground.data }, { on := 8, ground := Go.Ground.data }, { on := 8, ground := Go.Ground.chain }, { on := 0, ground := Go.Ground.phase }, { on := 1, ground := Go.Ground.phase }, { on := 2, ground := Go.Ground.phase }, { on := 3, ground := Go.Ground.phase }, { on := 4, ground := Go.Ground.phase }, { on := 5, ground := Go.Ground.phase }, { on := 6, ground := Go.Ground.phase }, { on := 7, ground := Go.Ground.phase }, { on := 8, ground := Go.Ground.phase }, { on := 9, ground := Go.Ground.phase }], guard := none }] true).wpIn Fence.wide n Tryd.prog Q { tmps := #[.agg xs, .pointer (some ⟨b0, 0, none⟩), .slice none 0 0, .bool false, undef, undef, undef, undef, undef, undef, undef, undef, undef, undef, undef, undef, undef, undef, undef, undef, undef, undef, undef, undef, undef, undef, undef, undef, undef, undef, undef, undef, undef, undef, undef, undef, undef, undef], defers := [] } W := by
  obtain ⟨W0, hW0⟩ : ∃ W0, W0 = W.drew := ⟨_, rfl⟩
  have hs0 : W0.heap.size = W.heap.size := by rw [hW0]; rfl
  have q1 : (fun Z : World => Z.cell? ⟨b0, 0, none⟩ = some (.int .i64 (k : Int))) W.drew := hc
  have HLN := Lib.hid hln
  have HY : Hid (0 ≤ y ∧ y < 256) := Lib.hid (by rw [← hy]; simp [IntKind.wrap, IntKind.bits, IntKind.signed]; omega)
  have HCV := Lib.hid hy
  have hlt := cell_lt hc
  have HS := Lib.hid (show ∀ Z, Below W0.heap.size W0 Z → (fun Z : World => Z.cell? ⟨b0, 0, none⟩ = some (.int .i64 (k : Int))) Z from fun Z hZ => (hZ.cell (p := ⟨b0, 0, none⟩) (by rw [hs0]; exact hlt)).trans (by rw [hW0]; exact hc))
  have HSZ := Lib.hid (show ∀ Z, Below W0.heap.size W0 Z → Calls Tryd.prog 26 #[.int .i64 (k : Int)] Z (fun e w' => e = .returned (.int .i64 (ln : Nat)) ∧ Below Z.heap.size Z w') from fun Z hZ => by
    have h := sizeOf_any (k : Int) (by unfold R64; omega) Z ((show TabE W0 by rw [hW0]; exact hT.next ⟨rfl, rfl, rfl, Nat.le_refl _, fun _ _ => rfl⟩).next hZ)
    rw [hk] at h
    exact h)
  have R0 : RP W0 W.drew y none none none none := ⟨by rw [hW0]; exact Below.refl _ _, fun _ e => (by cases e), fun _ e => (by cases e), fun _ e => (by cases e), fun _ e => (by cases e)⟩
  have HK := Lib.hid (show ∀ (b : Nat) (u12 u16 v : Value) (X : World), Below W0.heap.size W0 X ∧ W0.heap.size ≤ b ∧ At 28 X b #[v] ∧ Own8 W0.heap.size X v [y] → Q .normal { tmps := #[.agg xs, .pointer (some ⟨b0, 0, none⟩), .slice none 0 0, .bool false, .pointer (some ⟨b, 0, none⟩), undef, undef, undef, undef, .pointer (some ⟨b0, 0, none⟩), .int .i64 (k : Int), .int .i64 (ln : Nat), u12, .pointer (some ⟨b0, 0, none⟩), .int .i64 (k : Int), .int .u8 y, u16, v, undef, undef, undef, undef, undef, undef, undef, undef, undef, undef, undef, undef, undef, undef, undef, undef, undef, undef, undef, undef], defers := [] } X from fun b u12 u16 v X h => hK b u12 u16 v X (by rw [hs0] at h; exact ⟨⟨h.1.os.trans (by rw [hW0]; rfl), h.1.tape.trans (by rw [hW0]; rfl), h.1.output.trans (by rw [hW0]; rfl), by have := h.1.size; omega, fun j hj => (h.1.block j hj).trans (by rw [hW0]; rfl)⟩, h.2⟩))
  clear hK hy hln hk hT hc hlt hs0 hW0
  refine regionLIn0 (fun Z : World => Z.cell? ⟨b0, 0, none⟩ = some (.int .i64 (k : Int))) 10 (by kernel_rfl) (by kernel_rfl) ?_
  refine takeL (i := 0) (oi := { dst := some 9, op := Go.Op.fieldAddr 27 (Go.Operand.tmp 1) 0, type := 0, pos := "entry.go:248", after := #[], guard := none }) (v := .pointer (some ⟨b0, 0, none⟩)) [10, 8, 3, 2, 1] rfl (by kernel_rfl) (by kernel_rfl) (by kernel_rfl) (by kernel_rfl) (fun _ _ _ h => only_panic h) rfl ?_ q1 ?_
  · intro Z hZ; go_simp
  simp only [Act.put, List.setIfInBounds_toArray, List.set_cons_zero, List.set_cons_succ]
  refine takeL (i := 1) (oi := { dst := some 10, op := Go.Op.load 3 (Go.Operand.tmp 9), type := 3, pos := "entry.go:248", after := #[{ on := 0, ground := Go.Ground.data }], guard := none }) (v := .int .i64 (k : Int)) [10, 8, 3, 2] rfl (by kernel_rfl) (by kernel_rfl) (by kernel_rfl) (by kernel_rfl) (fun _ _ _ h => only_panic h) rfl ?_ q1 ?_
  · intro Z hZ; have z0 := hZ; go_simp
  simp only [Act.put, List.setIfInBounds_toArray, List.set_cons_zero, List.set_cons_succ]
  refine takeL (i := 4) (oi := { dst := some 13, op := Go.Op.fieldAddr 27 (Go.Operand.tmp 1) 0, type := 0, pos := "entry.go:248", after := #[], guard := none }) (v := .pointer (some ⟨b0, 0, none⟩)) [10, 8, 7, 6, 5] rfl (by kernel_rfl) (by kernel_rfl) (by kernel_rfl) (by kernel_rfl) (fun _ _ _ h => only_panic h) rfl ?_ q1 ?_
  · intro Z hZ; go_simp
  simp only [Act.put, List.setIfInBounds_toArray, List.set_cons_zero, List.set_cons_succ]
  refine takeL (i := 5) (oi := { dst := some 14, op := Go.Op.load 3 (Go.Operand.tmp 13), type := 3, pos := "entry.go:248", after := #[{ on := 4, ground := Go.Ground.data }], guard := none }) (v := .int .i64 (k : Int)) [10, 8, 7, 6] rfl (by kernel_rfl) (by kernel_rfl) (by kernel_rfl) (by kernel_rfl) (fun _ _ _ h => only_panic h) rfl ?_ q1 ?_
  · intro Z hZ; have z0 := hZ; go_simp
  simp only [Act.put, List.setIfInBounds_toArray, List.set_cons_zero, List.set_cons_succ]
  refine takeL (i := 6) (oi := { dst := some 15, op := Go.Op.convert 3 5 (Go.Operand.tmp 14), type := 5, pos := "entry.go:248", after := #[{ on := 5, ground := Go.Ground.data }], guard := none }) (v := .int .u8 y) [10, 8, 7] rfl (by kernel_rfl) (by kernel_rfl) (by kernel_rfl) (by kernel_rfl) (fun _ _ _ h => only_panic h) rfl ?_ q1 ?_
  · intro Z hZ; have e := HCV.out; go_simp
  simp only [Act.put, List.setIfInBounds_toArray, List.set_cons_zero, List.set_cons_succ]
  refine threeL (i := 2) (j := 7) (k := 9) (o := { dst := some 11, op := Go.Op.call { callee := Go.Callee.value (Go.Operand.func 26), args := #[Go.Operand.tmp 10], argTypes := #[3] }, type := 3, pos := "entry.go:248", after := #[{ on := 1, ground := Go.Ground.data }], guard := none }) (o' := { dst := some 16, op := Go.Op.buildSlice 28 1 #[(0, Go.Operand.tmp 15)], type := 28, pos := "entry.go:248", after := #[{ on := 6, ground := Go.Ground.data }], guard := none }) (o'' := { dst := some 4, op := Go.Op.alloc 28, type := 0, pos := "entry.go:248", after := #[], guard := none }) rfl rfl rfl (by kernel_rfl) rfl rfl rfl ?_ ?_ ?_
  · skip
    refine wp_by_call (f := 26) (args := #[.int .i64 (k : Int)]) (by go_simp) ((HSZ.out _ R0.below).mono ?_)
    rintro e X1 ⟨rfl, hb1⟩
    have R1 := R0.next hb1
    refine ⟨_, rfl, (fun _ => HS.out _ (R1).below), ?_⟩
    simp only [Act.put, List.setIfInBounds_toArray, List.set_cons_zero, List.set_cons_succ]
    refine threeL (i := 3) (j := 7) (k := 9) (o := { dst := some 12, op := Go.Op.makeSlice 28 (Go.Operand.const (Go.Value.int Go.IntKind.i64 0)) (Go.Operand.tmp 11), type := 28, pos := "entry.go:248", after := #[{ on := 2, ground := Go.Ground.data }], guard := none }) (o' := { dst := some 16, op := Go.Op.buildSlice 28 1 #[(0, Go.Operand.tmp 15)], type := 28, pos := "entry.go:248", after := #[{ on := 6, ground := Go.Ground.data }], guard := none }) (o'' := { dst := some 4, op := Go.Op.alloc 28, type := 0, pos := "entry.go:248", after := #[], guard := none }) rfl rfl rfl (by kernel_rfl) rfl rfl rfl ?_ ?_ ?_
    · skip
      obtain ⟨X2, hr2, hO2, hb2⟩ := make_any ln HLN.out W0.heap.size _ R1.below.size
      have R2 := R1.three hb2 hO2
      refine wp_by_run (exec_make rfl rfl rfl hr2) ⟨(fun _ => HS.out _ (R2).below), ?_⟩
      clear hr2
      simp only [Act.put, List.setIfInBounds_toArray, List.set_cons_zero, List.set_cons_succ]
      refine twoL (i := 7) (j := 9) (o := { dst := some 16, op := Go.Op.buildSlice 28 1 #[(0, Go.Operand.tmp 15)], type := 28, pos := "entry.go:248", after := #[{ on := 6, ground := Go.Ground.data }], guard := none }) (o' := { dst := some 4, op := Go.Op.alloc 28, type := 0, pos := "entry.go:248", after := #[], guard := none }) rfl rfl (by kernel_rfl) rfl rfl ?_ ?_
      · skip
        have R3 := R2.seven
        refine wp_by_run (w' := _) (v := .slice (some ⟨_, 0, none⟩) 1 1) (by go_simp; first | exact ⟨rfl, rfl⟩ | rfl) ⟨(fun _ => HS.out _ (R3).below), ?_⟩
        simp only [Act.put, List.setIfInBounds_toArray, List.set_cons_zero, List.set_cons_succ]
        refine twoL (i := 8) (j := 9) (o := { dst := some 17, op := Go.Op.call { callee := Go.Callee.builtin Go.Builtin.append, args := #[Go.Operand.tmp 12, Go.Operand.tmp 16], argTypes := #[28, 28] }, type := 28, pos := "entry.go:248", after := #[{ on := 3, ground := Go.Ground.data }, { on := 7, ground := Go.Ground.data }, { on := 2, ground := Go.Ground.chain }], guard := none }) (o' := { dst := some 4, op := Go.Op.alloc 28, type := 0, pos := "entry.go:248", after := #[], guard := none }) rfl rfl (by kernel_rfl) rfl rfl ?_ ?_
        · skip
          obtain ⟨v4, X4, hr4, R4⟩ := R3.eight HY.out
          refine wp_by_run (w' := X4) (v := v4) (by refine exec_append (s := .tmp 12) (x := .tmp 16) rfl ?_ ?_ hr4 <;> go_simp) ⟨(fun _ => HS.out _ (R4).below), ?_⟩
          clear hr4
          simp only [Act.put, List.setIfInBounds_toArray, List.set_cons_zero, List.set_cons_succ]
          refine oneL (i := 9) (o := { dst := some 4, op := Go.Op.alloc 28, type := 0, pos := "entry.go:248", after := #[], guard := none }) rfl (by kernel_rfl) rfl ?_
          have R5 := R4.nine
          refine wp_by_run (w' := _) (v := .pointer (some ⟨_, 0, none⟩)) (by go_simp; first | exact ⟨rfl, rfl⟩ | rfl) ⟨(fun _ => HS.out _ (R5).below), ?_⟩
          simp only [Act.put, List.setIfInBounds_toArray, List.set_cons_zero, List.set_cons_succ]
          obtain ⟨t1, t2, t3, t4⟩ := R5.store
          try simp only [World.size_alloc] at t1 t2 t4
          refine oneL (i := 10) (o := { dst := none, op := Go.Op.store 28 (Go.Operand.tmp 4) (Go.Operand.tmp 17), type := 0, pos := "entry.go:248", after := #[{ on := 9, ground := Go.Ground.data }, { on := 8, ground := Go.Ground.data }, { on := 8, ground := Go.Ground.chain }, { on := 0, ground := Go.Ground.phase }, { on := 1, ground := Go.Ground.phase }, { on := 2, ground := Go.Ground.phase }, { on := 3, ground := Go.Ground.phase }, { on := 4, ground := Go.Ground.phase }, { on := 5, ground := Go.Ground.phase }, { on := 6, ground := Go.Ground.phase }, { on := 7, ground := Go.Ground.phase }, { on := 8, ground := Go.Ground.phase }, { on := 9, ground := Go.Ground.phase }], guard := none }) rfl (by kernel_rfl) rfl ?_
          refine wp_by_skip (exec_store rfl rfl rfl t1 t2 t3 (by kernel_rfl)) ⟨fun h => absurd rfl h, ?_⟩
          simp only [Act.put, List.setIfInBounds_toArray, List.set_cons_zero, List.set_cons_succ]
          refine doneL (by kernel_rfl) (⟨rfl, ?_⟩) _
          exact HK.out _ _ _ _ _ t4
        · skip
          have R6 := R3.nine
          refine wp_by_run (w' := _) (v := .pointer (some ⟨_, 0, none⟩)) (by go_simp; first | exact ⟨rfl, rfl⟩ | rfl) ⟨(fun _ => HS.out _ (R6).below), ?_⟩
          simp only [Act.put, List.setIfInBounds_toArray, List.set_cons_zero, List.set_cons_succ]
          refine oneL (i := 8) (o := { dst := some 17, op := Go.Op.call { callee := Go.Callee.builtin Go.Builtin.append, args := #[Go.Operand.tmp 12, Go.Operand.tmp 16], argTypes := #[28, 28] }, type := 28, pos := "entry.go:248", after := #[{ on := 3, ground := Go.Ground.data }, { on := 7, ground := Go.Ground.data }, { on := 2, ground := Go.Ground.chain }], guard := none }) rfl (by kernel_rfl) rfl ?_
          obtain ⟨v7, X7, hr7, R7⟩ := R6.eight HY.out
          refine wp_by_run (w' := X7) (v := v7) (by refine exec_append (s := .tmp 12) (x := .tmp 16) rfl ?_ ?_ hr7 <;> go_simp) ⟨(fun _ => HS.out _ (R7).below), ?_⟩
          clear hr7
          simp only [Act.put, List.setIfInBounds_toArray, List.set_cons_zero, List.set_cons_succ]
          obtain ⟨t1, t2, t3, t4⟩ := R7.store
          try simp only [World.size_alloc] at t1 t2 t4
          refine oneL (i := 10) (o := { dst := none, op := Go.Op.store 28 (Go.Operand.tmp 4) (Go.Operand.tmp 17), type := 0, pos := "entry.go:248", after := #[{ on := 9, ground := Go.Ground.data }, { on := 8, ground := Go.Ground.data }, { on := 8, ground := Go.Ground.chain }, { on := 0, ground := Go.Ground.phase }, { on := 1, ground := Go.Ground.phase }, { on := 2, ground := Go.Ground.phase }, { on := 3, ground := Go.Ground.phase }, { on := 4, ground := Go.Ground.phase }, { on := 5, ground := Go.Ground.phase }, { on := 6, ground := Go.Ground.phase }, { on := 7, ground := Go.Ground.phase }, { on := 8, ground := Go.Ground.phase }, { on := 9, ground := Go.Ground.phase }], guard := none }) rfl (by kernel_rfl) rfl ?_
          refine wp_by_skip (exec_store rfl rfl rfl t1 t2 t3 (by kernel_rfl)) ⟨fun h => absurd rfl h, ?_⟩
          simp only [Act.put, List.setIfInBounds_toArray, List.set_cons_zero, List.set_cons_succ]
          refine doneL (by kernel_rfl) (⟨rfl, ?_⟩) _
          exact HK.out _ _ _ _ _ t4
      · skip
        have R8 := R2.nine
        refine wp_by_run (w' := _) (v := .pointer (some ⟨_, 0, none⟩)) (by go_simp; first | exact ⟨rfl, rfl⟩ | rfl) ⟨(fun _ => HS.out _ (R8).below), ?_⟩
        simp only [Act.put, List.setIfInBounds_toArray, List.set_cons_zero, List.set_cons_succ]
        refine oneL (i := 7) (o := { dst := some 16, op := Go.Op.buildSlice 28 1 #[(0, Go.Operand.tmp 15)], type := 28, pos := "entry.go:248", after := #[{ on := 6, ground := Go.Ground.data }], guard := none }) rfl (by kernel_rfl) rfl ?_
        have R9 := R8.seven
        refine wp_by_run (w' := _) (v := .slice (some ⟨_, 0, none⟩) 1 1) (by go_simp; first | exact ⟨rfl, rfl⟩ | rfl) ⟨(fun _ => HS.out _ (R9).below), ?_⟩
        simp only [Act.put, List.setIfInBounds_toArray, List.set_cons_zero, List.set_cons_succ]
        refine oneL (i := 8) (o := { dst := some 17, op := Go.Op.call { callee := Go.Callee.builtin Go.Builtin.append, args := #[Go.Operand.tmp 12, Go.Operand.tmp 16], argTypes := #[28, 28] }, type := 28, pos := "entry.go:248", after := #[{ on := 3, ground := Go.Ground.data }, { on := 7, ground := Go.Ground.data }, { on := 2, ground := Go.Ground.chain }], guard := none }) rfl (by kernel_rfl) rfl ?_
        obtain ⟨v10, X10, hr10, R10⟩ := R9.eight HY.out
        refine wp_by_run (w' := X10) (v := v10) (by refine exec_append (s := .tmp 12) (x := .tmp 16) rfl ?_ ?_ hr10 <;> go_simp) ⟨(fun _ => HS.out _ (R10).below), ?_⟩
        clear hr10
        simp only [Act.put, List.setIfInBounds_toArray, List.set_cons_zero, List.set_cons_succ]
        obtain ⟨t1, t2, t3, t4⟩ := R10.store
        try simp only [World.size_alloc] at t1 t2 t4
        refine oneL (i := 10) (o := { dst := none, op := Go.Op.store 28 (Go.Operand.tmp 4) (Go.Operand.tmp 17), type := 0, pos := "entry.go:248", after := #[{ on := 9, ground := Go.Ground.data }, { on := 8, ground := Go.Ground.data }, { on := 8, ground := Go.Ground.chain }, { on := 0, ground := Go.Ground.phase }, { on := 1, ground := Go.Ground.phase }, { on := 2, ground := Go.Ground.phase }, { on := 3, ground := Go.Ground.phase }, { on := 4, ground := Go.Ground.phase }, { on := 5, ground := Go.Ground.phase }, { on := 6, ground := Go.Ground.phase }, { on := 7, ground := Go.Ground.phase }, { on := 8, ground := Go.Ground.phase }, { on := 9, ground := Go.Ground.phase }], guard := none }) rfl (by kernel_rfl) rfl ?_
        refine wp_by_skip (exec_store rfl rfl rfl t1 t2 t3 (by kernel_rfl)) ⟨fun h => absurd rfl h, ?_⟩
        simp only [Act.put, List.setIfInBounds_toArray, List.set_cons_zero, List.set_cons_succ]
        refine doneL (by kernel_rfl) (⟨rfl, ?_⟩) _
        exact HK.out _ _ _ _ _ t4
    · skip
      have R11 := R1.seven
      refine wp_by_run (w' := _) (v := .slice (some ⟨_, 0, none⟩) 1 1) (by go_simp; first | exact ⟨rfl, rfl⟩ | rfl) ⟨(fun _ => HS.out _ (R11).below), ?_⟩
      simp only [Act.put, List.setIfInBounds_toArray, List.set_cons_zero, List.set_cons_succ]
      refine twoL (i := 3) (j := 9) (o := { dst := some 12, op := Go.Op.makeSlice 28 (Go.Operand.const (Go.Value.int Go.IntKind.i64 0)) (Go.Operand.tmp 11), type := 28, pos := "entry.go:248", after := #[{ on := 2, ground := Go.Ground.data }], guard := none }) (o' := { dst := some 4, op := Go.Op.alloc 28, type := 0, pos := "entry.go:248", after := #[], guard := none }) rfl rfl (by kernel_rfl) rfl rfl ?_ ?_
      · skip
        obtain ⟨X12, hr12, hO12, hb12⟩ := make_any ln HLN.out W0.heap.size _ R11.below.size
        have R12 := R11.three hb12 hO12
        refine wp_by_run (exec_make rfl rfl rfl hr12) ⟨(fun _ => HS.out _ (R12).below), ?_⟩
        clear hr12
        simp only [Act.put, List.setIfInBounds_toArray, List.set_cons_zero, List.set_cons_succ]
        refine twoL (i := 8) (j := 9) (o := { dst := some 17, op := Go.Op.call { callee := Go.Callee.builtin Go.Builtin.append, args := #[Go.Operand.tmp 12, Go.Operand.tmp 16], argTypes := #[28, 28] }, type := 28, pos := "entry.go:248", after := #[{ on := 3, ground := Go.Ground.data }, { on := 7, ground := Go.Ground.data }, { on := 2, ground := Go.Ground.chain }], guard := none }) (o' := { dst := some 4, op := Go.Op.alloc 28, type := 0, pos := "entry.go:248", after := #[], guard := none }) rfl rfl (by kernel_rfl) rfl rfl ?_ ?_
        · skip
          obtain ⟨v13, X13, hr13, R13⟩ := R12.eight HY.out
          refine wp_by_run (w' := X13) (v := v13) (by refine exec_append (s := .tmp 12) (x := .tmp 16) rfl ?_ ?_ hr13 <;> go_simp) ⟨(fun _ => HS.out _ (R13).below), ?_⟩
          clear hr13
          simp only [Act.put, List.setIfInBounds_toArray, List.set_cons_zero, List.set_cons_succ]
          refine oneL (i := 9) (o := { dst := some 4, op := Go.Op.alloc 28, type := 0, pos := "entry.go:248", after := #[], guard := none }) rfl (by kernel_rfl) rfl ?_
          have R14 := R13.nine
          refine wp_by_run (w' := _) (v := .pointer (some ⟨_, 0, none⟩)) (by go_simp; first | exact ⟨rfl, rfl⟩ | rfl) ⟨(fun _ => HS.out _ (R14).below), ?_⟩
          simp only [Act.put, List.setIfInBounds_toArray, List.set_cons_zero, List.set_cons_succ]
          obtain ⟨t1, t2, t3, t4⟩ := R14.store
          try simp only [World.size_alloc] at t1 t2 t4
          refine oneL (i := 10) (o := { dst := none, op := Go.Op.store 28 (Go.Operand.tmp 4) (Go.Operand.tmp 17), type := 0, pos := "entry.go:248", after := #[{ on := 9, ground := Go.Ground.data }, { on := 8, ground := Go.Ground.data }, { on := 8, ground := Go.Ground.chain }, { on := 0, ground := Go.Ground.phase }, { on := 1, ground := Go.Ground.phase }, { on := 2, ground := Go.Ground.phase }, { on := 3, ground := Go.Ground.phase }, { on := 4, ground := Go.Ground.phase }, { on := 5, ground := Go.Ground.phase }, { on := 6, ground := Go.Ground.phase }, { on := 7, ground := Go.Ground.phase }, { on := 8, ground := Go.Ground.phase }, { on := 9, ground := Go.Ground.phase }], guard := none }) rfl (by kernel_rfl) rfl ?_
          refine wp_by_skip (exec_store rfl rfl rfl t1 t2 t3 (by kernel_rfl)) ⟨fun h => absurd rfl h, ?_⟩
          simp only [Act.put, List.setIfInBounds_toArray, List.set_cons_zero, List.set_cons_succ]
          refine doneL (by kernel_rfl) (⟨rfl, ?_⟩) _
          exact HK.out _ _ _ _ _ t4
        · skip
          have R15 := R12.nine
          refine wp_by_run (w' := _) (v := .pointer (some ⟨_, 0, none⟩)) (by go_simp; first | exact ⟨rfl, rfl⟩ | rfl) ⟨(fun _ => HS.out _ (R15).below), ?_⟩
          simp only [Act.put, List.setIfInBounds_toArray, List.set_cons_zero, List.set_cons_succ]
          refine oneL (i := 8) (o := { dst := some 17, op := Go.Op.call { callee := Go.Callee.builtin Go.Builtin.append, args := #[Go.Operand.tmp 12, Go.Operand.tmp 16], argTypes := #[28, 28] }, type := 28, pos := "entry.go:248", after := #[{ on := 3, ground := Go.Ground.data }, { on := 7, ground := Go.Ground.data }, { on := 2, ground := Go.Ground.chain }], guard := none }) rfl (by kernel_rfl) rfl ?_
          obtain ⟨v16, X16, hr16, R16⟩ := R15.eight HY.out
          refine wp_by_run (w' := X16) (v := v16) (by refine exec_append (s := .tmp 12) (x := .tmp 16) rfl ?_ ?_ hr16 <;> go_simp) ⟨(fun _ => HS.out _ (R16).below), ?_⟩
          clear hr16
          simp only [Act.put, List.setIfInBounds_toArray, List.set_cons_zero, List.set_cons_succ]
          obtain ⟨t1, t2, t3, t4⟩ := R16.store
          try simp only [World.size_alloc] at t1 t2 t4
          refine oneL (i := 10) (o := { dst := none, op := Go.Op.store 28 (Go.Operand.tmp 4) (Go.Operand.tmp 17), type := 0, pos := "entry.go:248", after := #[{ on := 9, ground := Go.Ground.data }, { on := 8, ground := Go.Ground.data }, { on := 8, ground := Go.Ground.chain }, { on := 0, ground := Go.Ground.phase }, { on := 1, ground := Go.Ground.phase }, { on := 2, ground := Go.Ground.phase }, { on := 3, ground := Go.Ground.phase }, { on := 4, ground := Go.Ground.phase }, { on := 5, ground := Go.Ground.phase }, { on := 6, ground := Go.Ground.phase }, { on := 7, ground := Go.Ground.phase }, { on := 8, ground := Go.Ground.phase }, { on := 9, ground := Go.Ground.phase }], guard := none }) rfl (by kernel_rfl) rfl ?_
          refine wp_by_skip (exec_store rfl rfl rfl t1 t2 t3 (by kernel_rfl)) ⟨fun h => absurd rfl h, ?_⟩
          simp only [Act.put, List.setIfInBounds_toArray, List.set_cons_zero, List.set_cons_succ]
          refine doneL (by kernel_rfl) (⟨rfl, ?_⟩) _
          exact HK.out _ _ _ _ _ t4
      · skip
        have R17 := R11.nine
        refine wp_by_run (w' := _) (v := .pointer (some ⟨_, 0, none⟩)) (by go_simp; first | exact ⟨rfl, rfl⟩ | rfl) ⟨(fun _ => HS.out _ (R17).below), ?_⟩
        simp only [Act.put, List.setIfInBounds_toArray, List.set_cons_zero, List.set_cons_succ]
        refine oneL (i := 3) (o := { dst := some 12, op := Go.Op.makeSlice 28 (Go.Operand.const (Go.Value.int Go.IntKind.i64 0)) (Go.Operand.tmp 11), type := 28, pos := "entry.go:248", after := #[{ on := 2, ground := Go.Ground.data }], guard := none }) rfl (by kernel_rfl) rfl ?_
        obtain ⟨X18, hr18, hO18, hb18⟩ := make_any ln HLN.out W0.heap.size _ R17.below.size
        have R18 := R17.three hb18 hO18
        refine wp_by_run (exec_make rfl rfl rfl hr18) ⟨(fun _ => HS.out _ (R18).below), ?_⟩
        clear hr18
        simp only [Act.put, List.setIfInBounds_toArray, List.set_cons_zero, List.set_cons_succ]
        refine oneL (i := 8) (o := { dst := some 17, op := Go.Op.call { callee := Go.Callee.builtin Go.Builtin.append, args := #[Go.Operand.tmp 12, Go.Operand.tmp 16], argTypes := #[28, 28] }, type := 28, pos := "entry.go:248", after := #[{ on := 3, ground := Go.Ground.data }, { on := 7, ground := Go.Ground.data }, { on := 2, ground := Go.Ground.chain }], guard := none }) rfl (by kernel_rfl) rfl ?_
        obtain ⟨v19, X19, hr19, R19⟩ := R18.eight HY.out
        refine wp_by_run (w' := X19) (v := v19) (by refine exec_append (s := .tmp 12) (x := .tmp 16) rfl ?_ ?_ hr19 <;> go_simp) ⟨(fun _ => HS.out _ (R19).below), ?_⟩
        clear hr19
        simp only [Act.put, List.setIfInBounds_toArray, List.set_cons_zero, List.set_cons_succ]
        obtain ⟨t1, t2, t3, t4⟩ := R19.store
        try simp only [World.size_alloc] at t1 t2 t4
        refine oneL (i := 10) (o := { dst := none, op := Go.Op.store 28 (Go.Operand.tmp 4) (Go.Operand.tmp 17), type := 0, pos := "entry.go:248", after := #[{ on := 9, ground := Go.Ground.data }, { on := 8, ground := Go.Ground.data }, { on := 8, ground := Go.Ground.chain }, { on := 0, ground := Go.Ground.phase }, { on := 1, ground := Go.Ground.phase }, { on := 2, ground := Go.Ground.phase }, { on := 3, ground := Go.Ground.phase }, { on := 4, ground := Go.Ground.phase }, { on := 5, ground := Go.Ground.phase }, { on := 6, ground := Go.Ground.phase }, { on := 7, ground := Go.Ground.phase }, { on := 8, ground := Go.Ground.phase }, { on := 9, ground := Go.Ground.phase }], guard := none }) rfl (by kernel_rfl) rfl ?_
        refine wp_by_skip (exec_store rfl rfl rfl t1 t2 t3 (by kernel_rfl)) ⟨fun h => absurd rfl h, ?_⟩
        simp only [Act.put, List.setIfInBounds_toArray, List.set_cons_zero, List.set_cons_succ]
        refine doneL (by kernel_rfl) (⟨rfl, ?_⟩) _
        exact HK.out _ _ _ _ _ t4
    · skip
      have R20 := R1.nine
      refine wp_by_run (w' := _) (v := .pointer (some ⟨_, 0, none⟩)) (by go_simp; first | exact ⟨rfl, rfl⟩ | rfl) ⟨(fun _ => HS.out _ (R20).below), ?_⟩
      simp only [Act.put, List.setIfInBounds_toArray, List.set_cons_zero, List.set_cons_succ]
      refine twoL (i := 3) (j := 7) (o := { dst := some 12, op := Go.Op.makeSlice 28 (Go.Operand.const (Go.Value.int Go.IntKind.i64 0)) (Go.Operand.tmp 11), type := 28, pos := "entry.go:248", after := #[{ on := 2, ground := Go.Ground.data }], guard := none }) (o' := { dst := some 16, op := Go.Op.buildSlice 28 1 #[(0, Go.Operand.tmp 15)], type := 28, pos := "entry.go:248", after := #[{ on := 6, ground := Go.Ground.data }], guard := none }) rfl rfl (by kernel_rfl) rfl rfl ?_ ?_
      · skip
        obtain ⟨X21, hr21, hO21, hb21⟩ := make_any ln HLN.out W0.heap.size _ R20.below.size
        have R21 := R20.three hb21 hO21
        refine wp_by_run (exec_make rfl rfl rfl hr21) ⟨(fun _ => HS.out _ (R21).below), ?_⟩
        clear hr21
        simp only [Act.put, List.setIfInBounds_toArray, List.set_cons_zero, List.set_cons_succ]
        refine oneL (i := 7) (o := { dst := some 16, op := Go.Op.buildSlice 28 1 #[(0, Go.Operand.tmp 15)], type := 28, pos := "entry.go:248", after := #[{ on := 6, ground := Go.Ground.data }], guard := none }) rfl (by kernel_rfl) rfl ?_
        have R22 := R21.seven
        refine wp_by_run (w' := _) (v := .slice (some ⟨_, 0, none⟩) 1 1) (by go_simp; first | exact ⟨rfl, rfl⟩ | rfl) ⟨(fun _ => HS.out _ (R22).below), ?_⟩
        simp only [Act.put, List.setIfInBounds_toArray, List.set_cons_zero, List.set_cons_succ]
        refine oneL (i := 8) (o := { dst := some 17, op := Go.Op.call { callee := Go.Callee.builtin Go.Builtin.append, args := #[Go.Operand.tmp 12, Go.Operand.tmp 16], argTypes := #[28, 28] }, type := 28, pos := "entry.go:248", after := #[{ on := 3, ground := Go.Ground.data }, { on := 7, ground := Go.Ground.data }, { on := 2, ground := Go.Ground.chain }], guard := none }) rfl (by kernel_rfl) rfl ?_
        obtain ⟨v23, X23, hr23, R23⟩ := R22.eight HY.out
        refine wp_by_run (w' := X23) (v := v23) (by refine exec_append (s := .tmp 12) (x := .tmp 16) rfl ?_ ?_ hr23 <;> go_simp) ⟨(fun _ => HS.out _ (R23).below), ?_⟩
        clear hr23
        simp only [Act.put, List.setIfInBounds_toArray, List.set_cons_zero, List.set_cons_succ]
        obtain ⟨t1, t2, t3, t4⟩ := R23.store
        try simp only [World.size_alloc] at t1 t2 t4
        refine oneL (i := 10) (o := { dst := none, op := Go.Op.store 28 (Go.Operand.tmp 4) (Go.Operand.tmp 17), type := 0, pos := "entry.go:248", after := #[{ on := 9, ground := Go.Ground.data }, { on := 8, ground := Go.Ground.data }, { on := 8, ground := Go.Ground.chain }, { on := 0, ground := Go.Ground.phase }, { on := 1, ground := Go.Ground.phase }, { on := 2, ground := Go.Ground.phase }, { on := 3, ground := Go.Ground.phase }, { on := 4, ground := Go.Ground.phase }, { on := 5, ground := Go.Ground.phase }, { on := 6, ground := Go.Ground.phase }, { on := 7, ground := Go.Ground.phase }, { on := 8, ground := Go.Ground.phase }, { on := 9, ground := Go.Ground.phase }], guard := none }) rfl (by kernel_rfl) rfl ?_
        refine wp_by_skip (exec_store rfl rfl rfl t1 t2 t3 (by kernel_rfl)) ⟨fun h => absurd rfl h, ?_⟩
        simp only [Act.put, List.setIfInBounds_toArray, List.set_cons_zero, List.set_cons_succ]
        refine doneL (by kernel_rfl) (⟨rfl, ?_⟩) _
        exact HK.out _ _ _ _ _ t4
      · skip
        have R24 := R20.seven
        refine wp_by_run (w' := _) (v := .slice (some ⟨_, 0, none⟩) 1 1) (by go_simp; first | exact ⟨rfl, rfl⟩ | rfl) ⟨(fun _ => HS.out _ (R24).below), ?_⟩
        simp only [Act.put, List.setIfInBounds_toArray, List.set_cons_zero, List.set_cons_succ]
        refine oneL (i := 3) (o := { dst := some 12, op := Go.Op.makeSlice 28 (Go.Operand.const (Go.Value.int Go.IntKind.i64 0)) (Go.Operand.tmp 11), type := 28, pos := "entry.go:248", after := #[{ on := 2, ground := Go.Ground.data }], guard := none }) rfl (by kernel_rfl) rfl ?_
        obtain ⟨X25, hr25, hO25, hb25⟩ := make_any ln HLN.out W0.heap.size _ R24.below.size
        have R25 := R24.three hb25 hO25
        refine wp_by_run (exec_make rfl rfl rfl hr25) ⟨(fun _ => HS.out _ (R25).below), ?_⟩
        clear hr25
        simp only [Act.put, List.setIfInBounds_toArray, List.set_cons_zero, List.set_cons_succ]
        refine oneL (i := 8) (o := { dst := some 17, op := Go.Op.call { callee := Go.Callee.builtin Go.Builtin.append, args := #[Go.Operand.tmp 12, Go.Operand.tmp 16], argTypes := #[28, 28] }, type := 28, pos := "entry.go:248", after := #[{ on := 3, ground := Go.Ground.data }, { on := 7, ground := Go.Ground.data }, { on := 2, ground := Go.Ground.chain }], guard := none }) rfl (by kernel_rfl) rfl ?_
        obtain ⟨v26, X26, hr26, R26⟩ := R25.eight HY.out
        refine wp_by_run (w' := X26) (v := v26) (by refine exec_append (s := .tmp 12) (x := .tmp 16) rfl ?_ ?_ hr26 <;> go_simp) ⟨(fun _ => HS.out _ (R26).below), ?_⟩
        clear hr26
        simp only [Act.put, List.setIfInBounds_toArray, List.set_cons_zero, List.set_cons_succ]
        obtain ⟨t1, t2, t3, t4⟩ := R26.store
        try simp only [World.size_alloc] at t1 t2 t4
        refine oneL (i := 10) (o := { dst := none, op := Go.Op.store 28 (Go.Operand.tmp 4) (Go.Operand.tmp 17), type := 0, pos := "entry.go:248", after := #[{ on := 9, ground := Go.Ground.data }, { on := 8, ground := Go.Ground.data }, { on := 8, ground := Go.Ground.chain }, { on := 0, ground := Go.Ground.phase }, { on := 1, ground := Go.Ground.phase }, { on := 2, ground := Go.Ground.phase }, { on := 3, ground := Go.Ground.phase }, { on := 4, ground := Go.Ground.phase }, { on := 5, ground := Go.Ground.phase }, { on := 6, ground := Go.Ground.phase }, { on := 7, ground := Go.Ground.phase }, { on := 8, ground := Go.Ground.phase }, { on := 9, ground := Go.Ground.phase }], guard := none }) rfl (by kernel_rfl) rfl ?_
        refine wp_by_skip (exec_store rfl rfl rfl t1 t2 t3 (by kernel_rfl)) ⟨fun h => absurd rfl h, ?_⟩
        simp only [Act.put, List.setIfInBounds_toArray, List.set_cons_zero, List.set_cons_succ]
        refine doneL (by kernel_rfl) (⟨rfl, ?_⟩) _
        exact HK.out _ _ _ _ _ t4
  · skip
    have R27 := R0.seven
    refine wp_by_run (w' := _) (v := .slice (some ⟨_, 0, none⟩) 1 1) (by go_simp; first | exact ⟨rfl, rfl⟩ | rfl) ⟨(fun _ => HS.out _ (R27).below), ?_⟩
    simp only [Act.put, List.setIfInBounds_toArray, List.set_cons_zero, List.set_cons_succ]
    refine twoL (i := 2) (j := 9) (o := { dst := some 11, op := Go.Op.call { callee := Go.Callee.value (Go.Operand.func 26), args := #[Go.Operand.tmp 10], argTypes := #[3] }, type := 3, pos := "entry.go:248", after := #[{ on := 1, ground := Go.Ground.data }], guard := none }) (o' := { dst := some 4, op := Go.Op.alloc 28, type := 0, pos := "entry.go:248", after := #[], guard := none }) rfl rfl (by kernel_rfl) rfl rfl ?_ ?_
    · skip
      refine wp_by_call (f := 26) (args := #[.int .i64 (k : Int)]) (by go_simp) ((HSZ.out _ R27.below).mono ?_)
      rintro e X28 ⟨rfl, hb28⟩
      have R28 := R27.next hb28
      refine ⟨_, rfl, (fun _ => HS.out _ (R28).below), ?_⟩
      simp only [Act.put, List.setIfInBounds_toArray, List.set_cons_zero, List.set_cons_succ]
      refine twoL (i := 3) (j := 9) (o := { dst := some 12, op := Go.Op.makeSlice 28 (Go.Operand.const (Go.Value.int Go.IntKind.i64 0)) (Go.Operand.tmp 11), type := 28, pos := "entry.go:248", after := #[{ on := 2, ground := Go.Ground.data }], guard := none }) (o' := { dst := some 4, op := Go.Op.alloc 28, type := 0, pos := "entry.go:248", after := #[], guard := none }) rfl rfl (by kernel_rfl) rfl rfl ?_ ?_
      · skip
        obtain ⟨X29, hr29, hO29, hb29⟩ := make_any ln HLN.out W0.heap.size _ R28.below.size
        have R29 := R28.three hb29 hO29
        refine wp_by_run (exec_make rfl rfl rfl hr29) ⟨(fun _ => HS.out _ (R29).below), ?_⟩
        clear hr29
        simp only [Act.put, List.setIfInBounds_toArray, List.set_cons_zero, List.set_cons_succ]
        refine twoL (i := 8) (j := 9) (o := { dst := some 17, op := Go.Op.call { callee := Go.Callee.builtin Go.Builtin.append, args := #[Go.Operand.tmp 12, Go.Operand.tmp 16], argTypes := #[28, 28] }, type := 28, pos := "entry.go:248", after := #[{ on := 3, ground := Go.Ground.data }, { on := 7, ground := Go.Ground.data }, { on := 2, ground := Go.Ground.chain }], guard := none }) (o' := { dst := some 4, op := Go.Op.alloc 28, type := 0, pos := "entry.go:248", after := #[], guard := none }) rfl rfl (by kernel_rfl) rfl rfl ?_ ?_
        · skip
          obtain ⟨v30, X30, hr30, R30⟩ := R29.eight HY.out
          refine wp_by_run (w' := X30) (v := v30) (by refine exec_append (s := .tmp 12) (x := .tmp 16) rfl ?_ ?_ hr30 <;> go_simp) ⟨(fun _ => HS.out _ (R30).below), ?_⟩
          clear hr30
          simp only [Act.put, List.setIfInBounds_toArray, List.set_cons_zero, List.set_cons_succ]
          refine oneL (i := 9) (o := { dst := some 4, op := Go.Op.alloc 28, type := 0, pos := "entry.go:248", after := #[], guard := none }) rfl (by kernel_rfl) rfl ?_
          have R31 := R30.nine
          refine wp_by_run (w' := _) (v := .pointer (some ⟨_, 0, none⟩)) (by go_simp; first | exact ⟨rfl, rfl⟩ | rfl) ⟨(fun _ => HS.out _ (R31).below), ?_⟩
          simp only [Act.put, List.setIfInBounds_toArray, List.set_cons_zero, List.set_cons_succ]
          obtain ⟨t1, t2, t3, t4⟩ := R31.store
          try simp only [World.size_alloc] at t1 t2 t4
          refine oneL (i := 10) (o := { dst := none, op := Go.Op.store 28 (Go.Operand.tmp 4) (Go.Operand.tmp 17), type := 0, pos := "entry.go:248", after := #[{ on := 9, ground := Go.Ground.data }, { on := 8, ground := Go.Ground.data }, { on := 8, ground := Go.Ground.chain }, { on := 0, ground := Go.Ground.phase }, { on := 1, ground := Go.Ground.phase }, { on := 2, ground := Go.Ground.phase }, { on := 3, ground := Go.Ground.phase }, { on := 4, ground := Go.Ground.phase }, { on := 5, ground := Go.Ground.phase }, { on := 6, ground := Go.Ground.phase }, { on := 7, ground := Go.Ground.phase }, { on := 8, ground := Go.Ground.phase }, { on := 9, ground := Go.Ground.phase }], guard := none }) rfl (by kernel_rfl) rfl ?_
          refine wp_by_skip (exec_store rfl rfl rfl t1 t2 t3 (by kernel_rfl)) ⟨fun h => absurd rfl h, ?_⟩
          simp only [Act.put, List.setIfInBounds_toArray, List.set_cons_zero, List.set_cons_succ]
          refine doneL (by kernel_rfl) (⟨rfl, ?_⟩) _
          exact HK.out _ _ _ _ _ t4
        · skip
          have R32 := R29.nine
          refine wp_by_run (w' := _) (v := .pointer (some ⟨_, 0, none⟩)) (by go_simp; first | exact ⟨rfl, rfl⟩ | rfl) ⟨(fun _ => HS.out _ (R32).below), ?_⟩
          simp only [Act.put, List.setIfInBounds_toArray, List.set_cons_zero, List.set_cons_succ]
          refine oneL (i := 8) (o := { dst := some 17, op := Go.Op.call { callee := Go.Callee.builtin Go.Builtin.append, args := #[Go.Operand.tmp 12, Go.Operand.tmp 16], argTypes := #[28, 28] }, type := 28, pos := "entry.go:248", after := #[{ on := 3, ground := Go.Ground.data }, { on := 7, ground := Go.Ground.data }, { on := 2, ground := Go.Ground.chain }], guard := none }) rfl (by kernel_rfl) rfl ?_
          obtain ⟨v33, X33, hr33, R33⟩ := R32.eight HY.out
          refine wp_by_run (w' := X33) (v := v33) (by refine exec_append (s := .tmp 12) (x := .tmp 16) rfl ?_ ?_ hr33 <;> go_simp) ⟨(fun _ => HS.out _ (R33).below), ?_⟩
          clear hr33
          simp only [Act.put, List.setIfInBounds_toArray, List.set_cons_zero, List.set_cons_succ]
          obtain ⟨t1, t2, t3, t4⟩ := R33.store
          try simp only [World.size_alloc] at t1 t2 t4
          refine oneL (i := 10) (o := { dst := none, op := Go.Op.store 28 (Go.Operand.tmp 4) (Go.Operand.tmp 17), type := 0, pos := "entry.go:248", after := #[{ on := 9, ground := Go.Ground.data }, { on := 8, ground := Go.Ground.data }, { on := 8, ground := Go.Ground.chain }, { on := 0, ground := Go.Ground.phase }, { on := 1, ground := Go.Ground.phase }, { on := 2, ground := Go.Ground.phase }, { on := 3, ground := Go.Ground.phase }, { on := 4, ground := Go.Ground.phase }, { on := 5, ground := Go.Ground.phase }, { on := 6, ground := Go.Ground.phase }, { on := 7, ground := Go.Ground.phase }, { on := 8, ground := Go.Ground.phase }, { on := 9, ground := Go.Ground.phase }], guard := none }) rfl (by kernel_rfl) rfl ?_
          refine wp_by_skip (exec_store rfl rfl rfl t1 t2 t3 (by kernel_rfl)) ⟨fun h => absurd rfl h, ?_⟩
          simp only [Act.put, List.setIfInBounds_toArray, List.set_cons_zero, List.set_cons_succ]
          refine doneL (by kernel_rfl) (⟨rfl, ?_⟩) _
          exact HK.out _ _ _ _ _ t4
      · skip
        have R34 := R28.nine
        refine wp_by_run (w' := _) (v := .pointer (some ⟨_, 0, none⟩)) (by go_simp; first | exact ⟨rfl, rfl⟩ | rfl) ⟨(fun _ => HS.out _ (R34).below), ?_⟩
        simp only [Act.put, List.setIfInBounds_toArray, List.set_cons_zero, List.set_cons_succ]
        refine oneL (i := 3) (o := { dst := some 12, op := Go.Op.makeSlice 28 (Go.Operand.const (Go.Value.int Go.IntKind.i64 0)) (Go.Operand.tmp 11), type := 28, pos := "entry.go:248", after := #[{ on := 2, ground := Go.Ground.data }], guard := none }) rfl (by kernel_rfl) rfl ?_
        obtain ⟨X35, hr35, hO35, hb35⟩ := make_any ln HLN.out W0.heap.size _ R34.below.size
        have R35 := R34.three hb35 hO35
        refine wp_by_run (exec_make rfl rfl rfl hr35) ⟨(fun _ => HS.out _ (R35).below), ?_⟩
        clear hr35
        simp only [Act.put, List.setIfInBounds_toArray, List.set_cons_zero, List.set_cons_succ]
        refine oneL (i := 8) (o := { dst := some 17, op := Go.Op.call { callee := Go.Callee.builtin Go.Builtin.append, args := #[Go.Operand.tmp 12, Go.Operand.tmp 16], argTypes := #[28, 28] }, type := 28, pos := "entry.go:248", after := #[{ on := 3, ground := Go.Ground.data }, { on := 7, ground := Go.Ground.data }, { on := 2, ground := Go.Ground.chain }], guard := none }) rfl (by kernel_rfl) rfl ?_
        obtain ⟨v36, X36, hr36, R36⟩ := R35.eight HY.out
        refine wp_by_run (w' := X36) (v := v36) (by refine exec_append (s := .tmp 12) (x := .tmp 16) rfl ?_ ?_ hr36 <;> go_simp) ⟨(fun _ => HS.out _ (R36).below), ?_⟩
        clear hr36
        simp only [Act.put, List.setIfInBounds_toArray, List.set_cons_zero, List.set_cons_succ]
        obtain ⟨t1, t2, t3, t4⟩ := R36.store
        try simp only [World.size_alloc] at t1 t2 t4
        refine oneL (i := 10) (o := { dst := none, op := Go.Op.store 28 (Go.Operand.tmp 4) (Go.Operand.tmp 17), type := 0, pos := "entry.go:248", after := #[{ on := 9, ground := Go.Ground.data }, { on := 8, ground := Go.Ground.data }, { on := 8, ground := Go.Ground.chain }, { on := 0, ground := Go.Ground.phase }, { on := 1, ground := Go.Ground.phase }, { on := 2, ground := Go.Ground.phase }, { on := 3, ground := Go.Ground.phase }, { on := 4, ground := Go.Ground.phase }, { on := 5, ground := Go.Ground.phase }, { on := 6, ground := Go.Ground.phase }, { on := 7, ground := Go.Ground.phase }, { on := 8, ground := Go.Ground.phase }, { on := 9, ground := Go.Ground.phase }], guard := none }) rfl (by kernel_rfl) rfl ?_
        refine wp_by_skip (exec_store rfl rfl rfl t1 t2 t3 (by kernel_rfl)) ⟨fun h => absurd rfl h, ?_⟩
        simp only [Act.put, List.setIfInBounds_toArray, List.set_cons_zero, List.set_cons_succ]
        refine doneL (by kernel_rfl) (⟨rfl, ?_⟩) _
        exact HK.out _ _ _ _ _ t4
    · skip
      have R37 := R27.nine
      refine wp_by_run (w' := _) (v := .pointer (some ⟨_, 0, none⟩)) (by go_simp; first | exact ⟨rfl, rfl⟩ | rfl) ⟨(fun _ => HS.out _ (R37).below), ?_⟩
      simp only [Act.put, List.setIfInBounds_toArray, List.set_cons_zero, List.set_cons_succ]
      refine oneL (i := 2) (o := { dst := some 11, op := Go.Op.call { callee := Go.Callee.value (Go.Operand.func 26), args := #[Go.Operand.tmp 10], argTypes := #[3] }, type := 3, pos := "entry.go:248", after := #[{ on := 1, ground := Go.Ground.data }], guard := none }) rfl (by kernel_rfl) rfl ?_
      refine wp_by_call (f := 26) (args := #[.int .i64 (k : Int)]) (by go_simp) ((HSZ.out _ R37.below).mono ?_)
      rintro e X38 ⟨rfl, hb38⟩
      have R38 := R37.next hb38
      refine ⟨_, rfl, (fun _ => HS.out _ (R38).below), ?_⟩
      simp only [Act.put, List.setIfInBounds_toArray, List.set_cons_zero, List.set_cons_succ]
      refine oneL (i := 3) (o := { dst := some 12, op := Go.Op.makeSlice 28 (Go.Operand.const (Go.Value.int Go.IntKind.i64 0)) (Go.Operand.tmp 11), type := 28, pos := "entry.go:248", after := #[{ on := 2, ground := Go.Ground.data }], guard := none }) rfl (by kernel_rfl) rfl ?_
      obtain ⟨X39, hr39, hO39, hb39⟩ := make_any ln HLN.out W0.heap.size _ R38.below.size
      have R39 := R38.three hb39 hO39
      refine wp_by_run (exec_make rfl rfl rfl hr39) ⟨(fun _ => HS.out _ (R39).below), ?_⟩
      clear hr39
      simp only [Act.put, List.setIfInBounds_toArray, List.set_cons_zero, List.set_cons_succ]
      refine oneL (i := 8) (o := { dst := some 17, op := Go.Op.call { callee := Go.Callee.builtin Go.Builtin.append, args := #[Go.Operand.tmp 12, Go.Operand.tmp 16], argTypes := #[28, 28] }, type := 28, pos := "entry.go:248", after := #[{ on := 3, ground := Go.Ground.data }, { on := 7, ground := Go.Ground.data }, { on := 2, ground := Go.Ground.chain }], guard := none }) rfl (by kernel_rfl) rfl ?_
      obtain ⟨v40, X40, hr40, R40⟩ := R39.eight HY.out
      refine wp_by_run (w' := X40) (v := v40) (by refine exec_append (s := .tmp 12) (x := .tmp 16) rfl ?_ ?_ hr40 <;> go_simp) ⟨(fun _ => HS.out _ (R40).below), ?_⟩
      clear hr40
      simp only [Act.put, List.setIfInBounds_toArray, List.set_cons_zero, List.set_cons_succ]
      obtain ⟨t1, t2, t3, t4⟩ := R40.store
      try simp only [World.size_alloc] at t1 t2 t4
      refine oneL (i := 10) (o := { dst := none, op := Go.Op.store 28 (Go.Operand.tmp 4) (Go.Operand.tmp 17), type := 0, pos := "entry.go:248", after := #[{ on := 9, ground := Go.Ground.data }, { on := 8, ground := Go.Ground.data }, { on := 8, ground := Go.Ground.chain }, { on := 0, ground := Go.Ground.phase }, { on := 1, ground := Go.Ground.phase }, { on := 2, ground := Go.Ground.phase }, { on := 3, ground := Go.Ground.phase }, { on := 4, ground := Go.Ground.phase }, { on := 5, ground := Go.Ground.phase }, { on := 6, ground := Go.Ground.phase }, { on := 7, ground := Go.Ground.phase }, { on := 8, ground := Go.Ground.phase }, { on := 9, ground := Go.Ground.phase }], guard := none }) rfl (by kernel_rfl) rfl ?_
      refine wp_by_skip (exec_store rfl rfl rfl t1 t2 t3 (by kernel_rfl)) ⟨fun h => absurd rfl h, ?_⟩
      simp only [Act.put, List.setIfInBounds_toArray, List.set_cons_zero, List.set_cons_succ]
      refine doneL (by kernel_rfl) (⟨rfl, ?_⟩) _
      exact HK.out _ _ _ _ _ t4
  · skip
    have R41 := R0.nine
    refine wp_by_run (w' := _) (v := .pointer (some ⟨_, 0, none⟩)) (by go_simp; first | exact ⟨rfl, rfl⟩ | rfl) ⟨(fun _ => HS.out _ (R41).below), ?_⟩
    simp only [Act.put, List.setIfInBounds_toArray, List.set_cons_zero, List.set_cons_succ]
    refine twoL (i := 2) (j := 7) (o := { dst := some 11, op := Go.Op.call { callee := Go.Callee.value (Go.Operand.func 26), args := #[Go.Operand.tmp 10], argTypes := #[3] }, type := 3, pos := "entry.go:248", after := #[{ on := 1, ground := Go.Ground.data }], guard := none }) (o' := { dst := some 16, op := Go.Op.buildSlice 28 1 #[(0, Go.Operand.tmp 15)], type := 28, pos := "entry.go:248", after := #[{ on := 6, ground := Go.Ground.data }], guard := none }) rfl rfl (by kernel_rfl) rfl rfl ?_ ?_
    · skip
      refine wp_by_call (f := 26) (args := #[.int .i64 (k : Int)]) (by go_simp) ((HSZ.out _ R41.below).mono ?_)
      rintro e X42 ⟨rfl, hb42⟩
      have R42 := R41.next hb42
      refine ⟨_, rfl, (fun _ => HS.out _ (R42).below), ?_⟩
      simp only [Act.put, List.setIfInBounds_toArray, List.set_cons_zero, List.set_cons_succ]
      refine twoL (i := 3) (j := 7) (o := { dst := some 12, op := Go.Op.makeSlice 28 (Go.Operand.const (Go.Value.int Go.IntKind.i64 0)) (Go.Operand.tmp 11), type := 28, pos := "entry.go:248", after := #[{ on := 2, ground := Go.Ground.data }], guard := none }) (o' := { dst := some 16, op := Go.Op.buildSlice 28 1 #[(0, Go.Operand.tmp 15)], type := 28, pos := "entry.go:248", after := #[{ on := 6, ground := Go.Ground.data }], guard := none }) rfl rfl (by kernel_rfl) rfl rfl ?_ ?_
      · skip
        obtain ⟨X43, hr43, hO43, hb43⟩ := make_any ln HLN.out W0.heap.size _ R42.below.size
        have R43 := R42.three hb43 hO43
        refine wp_by_run (exec_make rfl rfl rfl hr43) ⟨(fun _ => HS.out _ (R43).below), ?_⟩
        clear hr43
        simp only [Act.put, List.setIfInBounds_toArray, List.set_cons_zero, List.set_cons_succ]
        refine oneL (i := 7) (o := { dst := some 16, op := Go.Op.buildSlice 28 1 #[(0, Go.Operand.tmp 15)], type := 28, pos := "entry.go:248", after := #[{ on := 6, ground := Go.Ground.data }], guard := none }) rfl (by kernel_rfl) rfl ?_
        have R44 := R43.seven
        refine wp_by_run (w' := _) (v := .slice (some ⟨_, 0, none⟩) 1 1) (by go_simp; first | exact ⟨rfl, rfl⟩ | rfl) ⟨(fun _ => HS.out _ (R44).below), ?_⟩
        simp only [Act.put, List.setIfInBounds_toArray, List.set_cons_zero, List.set_cons_succ]
        refine oneL (i := 8) (o := { dst := some 17, op := Go.Op.call { callee := Go.Callee.builtin Go.Builtin.append, args := #[Go.Operand.tmp 12, Go.Operand.tmp 16], argTypes := #[28, 28] }, type := 28, pos := "entry.go:248", after := #[{ on := 3, ground := Go.Ground.data }, { on := 7, ground := Go.Ground.data }, { on := 2, ground := Go.Ground.chain }], guard := none }) rfl (by kernel_rfl) rfl ?_
        obtain ⟨v45, X45, hr45, R45⟩ := R44.eight HY.out
        refine wp_by_run (w' := X45) (v := v45) (by refine exec_append (s := .tmp 12) (x := .tmp 16) rfl ?_ ?_ hr45 <;> go_simp) ⟨(fun _ => HS.out _ (R45).below), ?_⟩
        clear hr45
        simp only [Act.put, List.setIfInBounds_toArray, List.set_cons_zero, List.set_cons_succ]
        obtain ⟨t1, t2, t3, t4⟩ := R45.store
        try simp only [World.size_alloc] at t1 t2 t4
        refine oneL (i := 10) (o := { dst := none, op := Go.Op.store 28 (Go.Operand.tmp 4) (Go.Operand.tmp 17), type := 0, pos := "entry.go:248", after := #[{ on := 9, ground := Go.Ground.data }, { on := 8, ground := Go.Ground.data }, { on := 8, ground := Go.Ground.chain }, { on := 0, ground := Go.Ground.phase }, { on := 1, ground := Go.Ground.phase }, { on := 2, ground := Go.Ground.phase }, { on := 3, ground := Go.Ground.phase }, { on := 4, ground := Go.Ground.phase }, { on := 5, ground := Go.Ground.phase }, { on := 6, ground := Go.Ground.phase }, { on := 7, ground := Go.Ground.phase }, { on := 8, ground := Go.Ground.phase }, { on := 9, ground := Go.Ground.phase }], guard := none }) rfl (by kernel_rfl) rfl ?_
        refine wp_by_skip (exec_store rfl rfl rfl t1 t2 t3 (by kernel_rfl)) ⟨fun h => absurd rfl h, ?_⟩
        simp only [Act.put, List.setIfInBounds_toArray, List.set_cons_zero, List.set_cons_succ]
        refine doneL (by kernel_rfl) (⟨rfl, ?_⟩) _
        exact HK.out _ _ _ _ _ t4
      · skip
        have R46 := R42.seven
        refine wp_by_run (w' := _) (v := .slice (some ⟨_, 0, none⟩) 1 1) (by go_simp; first | exact ⟨rfl, rfl⟩ | rfl) ⟨(fun _ => HS.out _ (R46).below), ?_⟩
        simp only [Act.put, List.setIfInBounds_toArray, List.set_cons_zero, List.set_cons_succ]
        refine oneL (i := 3) (o := { dst := some 12, op := Go.Op.makeSlice 28 (Go.Operand.const (Go.Value.int Go.IntKind.i64 0)) (Go.Operand.tmp 11), type := 28, pos := "entry.go:248", after := #[{ on := 2, ground := Go.Ground.data }], guard := none }) rfl (by kernel_rfl) rfl ?_
        obtain ⟨X47, hr47, hO47, hb47⟩ := make_any ln HLN.out W0.heap.size _ R46.below.size
        have R47 := R46.three hb47 hO47
        refine wp_by_run (exec_make rfl rfl rfl hr47) ⟨(fun _ => HS.out _ (R47).below), ?_⟩
        clear hr47
        simp only [Act.put, List.setIfInBounds_toArray, List.set_cons_zero, List.set_cons_succ]
        refine oneL (i := 8) (o := { dst := some 17, op := Go.Op.call { callee := Go.Callee.builtin Go.Builtin.append, args := #[Go.Operand.tmp 12, Go.Operand.tmp 16], argTypes := #[28, 28] }, type := 28, pos := "entry.go:248", after := #[{ on := 3, ground := Go.Ground.data }, { on := 7, ground := Go.Ground.data }, { on := 2, ground := Go.Ground.chain }], guard := none }) rfl (by kernel_rfl) rfl ?_
        obtain ⟨v48, X48, hr48, R48⟩ := R47.eight HY.out
        refine wp_by_run (w' := X48) (v := v48) (by refine exec_append (s := .tmp 12) (x := .tmp 16) rfl ?_ ?_ hr48 <;> go_simp) ⟨(fun _ => HS.out _ (R48).below), ?_⟩
        clear hr48
        simp only [Act.put, List.setIfInBounds_toArray, List.set_cons_zero, List.set_cons_succ]
        obtain ⟨t1, t2, t3, t4⟩ := R48.store
        try simp only [World.size_alloc] at t1 t2 t4
        refine oneL (i := 10) (o := { dst := none, op := Go.Op.store 28 (Go.Operand.tmp 4) (Go.Operand.tmp 17), type := 0, pos := "entry.go:248", after := #[{ on := 9, ground := Go.Ground.data }, { on := 8, ground := Go.Ground.data }, { on := 8, ground := Go.Ground.chain }, { on := 0, ground := Go.Ground.phase }, { on := 1, ground := Go.Ground.phase }, { on := 2, ground := Go.Ground.phase }, { on := 3, ground := Go.Ground.phase }, { on := 4, ground := Go.Ground.phase }, { on := 5, ground := Go.Ground.phase }, { on := 6, ground := Go.Ground.phase }, { on := 7, ground := Go.Ground.phase }, { on := 8, ground := Go.Ground.phase }, { on := 9, ground := Go.Ground.phase }], guard := none }) rfl (by kernel_rfl) rfl ?_
        refine wp_by_skip (exec_store rfl rfl rfl t1 t2 t3 (by kernel_rfl)) ⟨fun h => absurd rfl h, ?_⟩
        simp only [Act.put, List.setIfInBounds_toArray, List.set_cons_zero, List.set_cons_succ]
        refine doneL (by kernel_rfl) (⟨rfl, ?_⟩) _
        exact HK.out _ _ _ _ _ t4
    · skip
      have R49 := R41.seven
      refine wp_by_run (w' := _) (v := .slice (some ⟨_, 0, none⟩) 1 1) (by go_simp; first | exact ⟨rfl, rfl⟩ | rfl) ⟨(fun _ => HS.out _ (R49).below), ?_⟩
      simp only [Act.put, List.setIfInBounds_toArray, List.set_cons_zero, List.set_cons_succ]
      refine oneL (i := 2) (o := { dst := some 11, op := Go.Op.call { callee := Go.Callee.value (Go.Operand.func 26), args := #[Go.Operand.tmp 10], argTypes := #[3] }, type := 3, pos := "entry.go:248", after := #[{ on := 1, ground := Go.Ground.data }], guard := none }) rfl (by kernel_rfl) rfl ?_
      refine wp_by_call (f := 26) (args := #[.int .i64 (k : Int)]) (by go_simp) ((HSZ.out _ R49.below).mono ?_)
      rintro e X50 ⟨rfl, hb50⟩
      have R50 := R49.next hb50
      refine ⟨_, rfl, (fun _ => HS.out _ (R50).below), ?_⟩
      simp only [Act.put, List.setIfInBounds_toArray, List.set_cons_zero, List.set_cons_succ]
      refine oneL (i := 3) (o := { dst := some 12, op := Go.Op.makeSlice 28 (Go.Operand.const (Go.Value.int Go.IntKind.i64 0)) (Go.Operand.tmp 11), type := 28, pos := "entry.go:248", after := #[{ on := 2, ground := Go.Ground.data }], guard := none }) rfl (by kernel_rfl) rfl ?_
      obtain ⟨X51, hr51, hO51, hb51⟩ := make_any ln HLN.out W0.heap.size _ R50.below.size
      have R51 := R50.three hb51 hO51
      refine wp_by_run (exec_make rfl rfl rfl hr51) ⟨(fun _ => HS.out _ (R51).below), ?_⟩
      clear hr51
      simp only [Act.put, List.setIfInBounds_toArray, List.set_cons_zero, List.set_cons_succ]
      refine oneL (i := 8) (o := { dst := some 17, op := Go.Op.call { callee := Go.Callee.builtin Go.Builtin.append, args := #[Go.Operand.tmp 12, Go.Operand.tmp 16], argTypes := #[28, 28] }, type := 28, pos := "entry.go:248", after := #[{ on := 3, ground := Go.Ground.data }, { on := 7, ground := Go.Ground.data }, { on := 2, ground := Go.Ground.chain }], guard := none }) rfl (by kernel_rfl) rfl ?_
      obtain ⟨v52, X52, hr52, R52⟩ := R51.eight HY.out
      refine wp_by_run (w' := X52) (v := v52) (by refine exec_append (s := .tmp 12) (x := .tmp 16) rfl ?_ ?_ hr52 <;> go_simp) ⟨(fun _ => HS.out _ (R52).below), ?_⟩
      clear hr52
      simp only [Act.put, List.setIfInBounds_toArray, List.set_cons_zero, List.set_cons_succ]
      obtain ⟨t1, t2, t3, t4⟩ := R52.store
      try simp only [World.size_alloc] at t1 t2 t4
      refine oneL (i := 10) (o := { dst := none, op := Go.Op.store 28 (Go.Operand.tmp 4) (Go.Operand.tmp 17), type := 0, pos := "entry.go:248", after := #[{ on := 9, ground := Go.Ground.data }, { on := 8, ground := Go.Ground.data }, { on := 8, ground := Go.Ground.chain }, { on := 0, ground := Go.Ground.phase }, { on := 1, ground := Go.Ground.phase }, { on := 2, ground := Go.Ground.phase }, { on := 3, ground := Go.Ground.phase }, { on := 4, ground := Go.Ground.phase }, { on := 5, ground := Go.Ground.phase }, { on := 6, ground := Go.Ground.phase }, { on := 7, ground := Go.Ground.phase }, { on := 8, ground := Go.Ground.phase }, { on := 9, ground := Go.Ground.phase }], guard := none }) rfl (by kernel_rfl) rfl ?_
      refine wp_by_skip (exec_store rfl rfl rfl t1 t2 t3 (by kernel_rfl)) ⟨fun h => absurd rfl h, ?_⟩
      simp only [Act.put, List.setIfInBounds_toArray, List.set_cons_zero, List.set_cons_succ]
      refine doneL (by kernel_rfl) (⟨rfl, ?_⟩) _
      exact HK.out _ _ _ _ _ t4
end Go.Proofs.YtmeamdfmcpkofaaDoor
