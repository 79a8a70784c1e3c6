/- New and Plan. -/
import Derived.Test.YtpcbolmidnoaiaaDCount
import Derived.Test.YtpcbolmidnoaiaaRRegL
import Derived.Laws.MakeOwn
import Derived.Laws.EntriesVeiled
set_option linter.unusedVariables false
set_option linter.unusedSimpArgs false
namespace Go.Proofs.Ytpcbolmidnoaiaa
open Go.RowKit
theorem sec_info : (Try.prog.info? 94).map (fun i => (i.zero, i.size, i.bytes)) = some (some (.agg (nums .u8 128 fun _ => 0)), 128, 128) := by kernel_rfl
theorem sec_parts : ∃ i, Try.prog.info? 94 = some i ∧ i.zero = some (.agg (nums .u8 128 fun _ => 0)) ∧ i.size = 128 ∧ i.bytes = 128 := by
  have h := sec_info
  cases hi : Try.prog.info? 94 with
  | none => rw [hi] at h; cases h
  | some i => rw [hi] at h; simp at h; exact ⟨i, rfl, h.1, h.2.1, h.2.2⟩
theorem flat_rep {α : Type} (x : α) (k : Nat) : ∀ m : Nat, (List.replicate m (List.replicate k x)).flatten = List.replicate (m * k) x
  | 0 => by simp
  | m + 1 => by rw [List.replicate_succ, List.flatten_cons, flat_rep x k m, List.replicate_append_replicate]; congr 1; rw [Nat.add_mul]; omega
theorem made_zero (m : Nat) : (madeCells (Value.agg (nums .u8 128 fun _ => 0)).cells (m * 128)).toList = ((Dv.new m).safe.map vals8).flatten := by
  have e : (Dv.new m).safe.map vals8 = List.replicate m (List.replicate 128 (Value.int .u8 0)) := by
    show (List.replicate m (List.replicate 128 0)).map vals8 = _
    rw [List.map_replicate]; congr 1
  rw [e, flat_rep]
  apply List.ext_getElem?
  intro j
  by_cases hj : j < m * 128
  · have : j % 128 < 128 := Nat.mod_lt _ (by decide)
    simp [madeCells, hj, Value.cells, nums, this]
  · simp [madeCells, hj]
theorem new_dev (m : Nat) (h0 : 0 < m) (h1 : m ≤ 65536) (X : World) (S B1 B2 : Nat) (hS : X.ownsRow 0 94 128 (.slice (some ⟨S, 0, none⟩) m m) m (madeCells (Value.agg (nums .u8 128 fun _ => 0)).cells (m * 128)).toList)
    (b1 : At 3 X B1 #[.int .i64 0]) (b2 : At 3 X B2 #[.int .i64 0]) :
    DevAt (X.alloc (.cells #[.slice (some ⟨S, 0, none⟩) m m, .slice none 0 0, planF B1 B2, .int .i64 0, .bool false] 53)) ⟨X.heap.size, S, m, B1, B2, .slice none 0 0⟩ (Dv.new m) := by
  have hl : (Dv.new m).safe.length = m := by show (List.replicate _ _).length = _; simp
  refine ⟨?_, b1.alloc _, b2.alloc _, ?_, World.ownsRow_nil _ _ _ _, Dv.new_ok h0 h1⟩
  · show At _ _ _ #[.slice _ (Dv.new m).safe.length _, _, _, _, _]
    rw [hl]
    exact At.new _ X _
  · show (X.alloc _).ownsRow _ _ _ (.slice _ (Dv.new m).safe.length m) (Dv.new m).safe.length _
    rw [hl, ← made_zero]
    exact hS.alloc _
/-- A new device. -/
def NewD (w w' : World) (m : Nat) (e : Ending) : Prop := ∃ p, e = .returned (.tuple #[ptr p.D, .int .i64 0]) ∧ DevAt w' p (Dv.new m) ∧ (∀ k, own p k → w.heap.size ≤ k) ∧ Below w.heap.size w w'
theorem new_end (m : Nat) (h0 : 0 < m) (h1 : m ≤ 65536) (w X : World) (S B1 B2 : Nat) (hB : Below w.heap.size w X) (hS : X.ownsRow 0 94 128 (.slice (some ⟨S, 0, none⟩) m m) m (madeCells (Value.agg (nums .u8 128 fun _ => 0)).cells (m * 128)).toList)
    (b1 : At 3 X B1 #[.int .i64 0]) (b2 : At 3 X B2 #[.int .i64 0]) (hSs : w.heap.size ≤ S) :
    NewD w (X.alloc (.cells #[.slice (some ⟨S, 0, none⟩) m m, .slice none 0 0, planF B1 B2, .int .i64 0, .bool false] 53)) m (.returned (.tuple #[ptr X.heap.size, .int .i64 0])) := by
  refine ⟨_, rfl, new_dev m h0 h1 X S B1 B2 hS b1 b2, ?_, hB.alloc hB.size _⟩
  rintro k (rfl | rfl | hk)
  · exact hB.size
  · exact hSs
  · cases hk
theorem run_make_sec (m : Nat) (h1 : m ≤ 65536) (X : World) : ∃ X', (Instr.makeSlice 48 (.int .i64 (m : Int)) (.int .i64 (m : Int))).run Try.prog X = .ok (.slice (some ⟨X.heap.size, 0, none⟩) m m) X' ∧
    X'.ownsRow 0 94 128 (.slice (some ⟨X.heap.size, 0, none⟩) m m) m (madeCells (Value.agg (nums .u8 128 fun _ => 0)).cells (m * 128)).toList ∧ Below X.heap.size X X' := by
  obtain ⟨i, hi, hz, hs, hb⟩ := sec_parts
  obtain ⟨X', a, b, c⟩ := run_makeSlice_full (P := Try.prog) X 0 48 94 i _ 128 Try.underlying48 hi hz hs .i64 .i64 m (by omega) (by rw [hb]; omega) (by unfold maxLen; omega) (Nat.zero_le _)
  exact ⟨X', a, b, (Below.refl _ _).grown c (Nat.le_refl _) (fun k e => by cases e)⟩
set_option maxRecDepth 100000 in
theorem new_yes (m : Nat) (h0 : 0 < m) (h1 : m ≤ 65536) (w : World) : Calls Try.prog 7 #[.int .i64 (m : Int)] w fun e w' => NewD w w' m e := by
  have i0 : ¬ ((m : Int) < 1) := by omega
  have i1 : ¬ ((65536 : Int) < (m : Int)) := by omega
  have HN := Lib.hid (new_end m h0 h1 w)
  have HM := Lib.hid (run_make_sec m h1)
  clear h0 h1
  go_enter Try.func7, Try.ntmps7
  go_wp2
  refine regionL (fun _ => True) 6 (by kernel_rfl) ?_
  refine takeL (i := 0) (oi := { dst := some 10, op := Go.Op.move (Go.Operand.tmp 0), type := 3, pos := "blockdev.go:38", after := #[], guard := none }) (v := .int .i64 (m : Int)) [6, 5, 4, 3, 1] rfl (by kernel_rfl) (by kernel_rfl) (by kernel_rfl) (by kernel_rfl) (fun _ _ _ h => calm_panic h) rfl ?_ trivial ?_
  · intro W hW; go_simp
  simp only [Act.put, List.setIfInBounds_toArray, List.set_cons_zero, List.set_cons_succ]
  refine twoL (i := 1) (j := 2) (o := { dst := some 11, op := Go.Op.makeSlice 48 (Go.Operand.tmp 10) (Go.Operand.tmp 10), type := 48, pos := "blockdev.go:38", after := #[{ on := 0, ground := Go.Ground.data }, { on := 0, ground := Go.Ground.data }], guard := none }) (o' := { dst := some 12, op := Go.Op.call { callee := Go.Callee.value (Go.Operand.func 23), args := #[Go.Operand.const (Go.Value.int Go.IntKind.i64 0), Go.Operand.const (Go.Value.int Go.IntKind.i64 0)], argTypes := #[3, 3] }, type := 49, pos := "blockdev.go:38", after := #[], guard := none }) rfl rfl (by kernel_rfl) rfl rfl ?_ ?_
  · obtain ⟨X1, hr1, ho1, hB1⟩ := HM.out w.drew
    refine wp_by_run (w' := X1) (v := .slice (some ⟨w.heap.size, 0, none⟩) m m) (by go_simp) ⟨fun _ => trivial, ?_⟩
    simp only [Act.put, List.setIfInBounds_toArray, List.set_cons_zero, List.set_cons_succ]
    refine oneL (i := 2) (o := { dst := some 12, op := Go.Op.call { callee := Go.Callee.value (Go.Operand.func 23), args := #[Go.Operand.const (Go.Value.int Go.IntKind.i64 0), Go.Operand.const (Go.Value.int Go.IntKind.i64 0)], argTypes := #[3, 3] }, type := 49, pos := "blockdev.go:38", after := #[], guard := none }) rfl (by kernel_rfl) rfl ?_
    refine wp_by_call (f := 23) (args := #[.int .i64 0, .int .i64 0]) (by go_simp) ((planFrom_any 0 0 X1).mono ?_)
    rintro e X2 ⟨rfl, rfl⟩
    refine ⟨_, rfl, fun _ => trivial, ?_⟩
    simp only [Act.put, List.setIfInBounds_toArray, List.set_cons_zero, List.set_cons_succ]
    refine takeL (i := 3) (oi := { dst := some 13, op := Go.Op.build 53 #[(0, Go.Operand.tmp 11), (2, Go.Operand.tmp 12)], type := 53, pos := "blockdev.go:38", after := #[{ on := 1, ground := Go.Ground.data }, { on := 2, ground := Go.Ground.data }], guard := none }) (v := .agg #[.slice (some ⟨w.heap.size, 0, none⟩) m m, .slice none 0 0, planF X1.heap.size (X1.heap.size + 1), .int .i64 0, .bool false]) [6, 5, 4] rfl (by kernel_rfl) (by kernel_rfl) (by kernel_rfl) (by kernel_rfl) (fun _ _ _ h => calm_panic h) rfl ?_ trivial ?_
    · intro W hW; go_simp
    simp only [Act.put, List.setIfInBounds_toArray, List.set_cons_zero, List.set_cons_succ]
    refine oneL (i := 4) (o := { dst := some 14, op := Go.Op.box 53 (Go.Operand.tmp 13), type := 27, pos := "blockdev.go:38", after := #[{ on := 3, ground := Go.Ground.data }], guard := none }) rfl (by kernel_rfl) rfl ?_
    refine wp_by_run (w' := (planW X1 0 0).alloc (.cells #[.slice (some ⟨w.heap.size, 0, none⟩) m m, .slice none 0 0, planF X1.heap.size (X1.heap.size + 1), .int .i64 0, .bool false] 53)) (v := .pointer (some ⟨(planW X1 0 0).heap.size, 0, none⟩)) (by go_simp) ⟨fun _ => trivial, ?_⟩
    simp only [Act.put, List.setIfInBounds_toArray, List.set_cons_zero, List.set_cons_succ]
    refine takeL (i := 5) (oi := { dst := some 2, op := Go.Op.assign (Go.Operand.tmp 14), type := 27, pos := "blockdev.go:38", after := #[{ on := 4, ground := Go.Ground.data }, { on := 2, ground := Go.Ground.chain }, { on := 0, ground := Go.Ground.phase }, { on := 1, ground := Go.Ground.phase }, { on := 2, ground := Go.Ground.phase }, { on := 3, ground := Go.Ground.phase }, { on := 4, ground := Go.Ground.phase }], guard := none }) (v := .pointer (some ⟨(planW X1 0 0).heap.size, 0, none⟩)) [6] rfl (by kernel_rfl) (by kernel_rfl) (by kernel_rfl) (by kernel_rfl) (fun _ _ _ h => calm_panic h) rfl ?_ trivial ?_
    · intro W hW; go_simp
    simp only [Act.put, List.setIfInBounds_toArray, List.set_cons_zero, List.set_cons_succ]
    refine oneL (i := 6) (o := { dst := some 3, op := Go.Op.assign (Go.Operand.const (Go.Value.int Go.IntKind.i64 0)), type := 28, pos := "blockdev.go:38", after := #[{ on := 5, ground := Go.Ground.chain }, { on := 0, ground := Go.Ground.phase }, { on := 1, ground := Go.Ground.phase }, { on := 2, ground := Go.Ground.phase }, { on := 3, ground := Go.Ground.phase }, { on := 4, ground := Go.Ground.phase }, { on := 5, ground := Go.Ground.phase }], guard := none }) rfl (by kernel_rfl) rfl ?_
    refine wp_by_run (w' := (planW X1 0 0).alloc (.cells #[.slice (some ⟨w.heap.size, 0, none⟩) m m, .slice none 0 0, planF X1.heap.size (X1.heap.size + 1), .int .i64 0, .bool false] 53)) (v := .int .i64 0) (by go_simp) ⟨fun h => absurd rfl h, ?_⟩
    simp only [Act.put, List.setIfInBounds_toArray, List.set_cons_zero, List.set_cons_succ]
    refine doneL (by kernel_rfl) (Calm.normal ?_) _
    go_wp2
    go_ret2
    exact HN.out (planW X1 0 0) w.heap.size X1.heap.size (X1.heap.size + 1) (((((Below.refl _ w).drew).trans hB1).alloc hB1.size _).alloc (by have := hB1.size; simp at this ⊢; omega) _) ((ho1.alloc _).alloc _) ((At.new _ X1 _).alloc _) (by have := At.new 3 (X1.alloc (.cells #[.int .i64 0] 3)) #[.int .i64 0]; rwa [World.size_alloc] at this) (by show w.heap.size ≤ w.heap.size; omega)
  · refine wp_by_call (f := 23) (args := #[.int .i64 0, .int .i64 0]) (by go_simp) ((planFrom_any 0 0 w.drew).mono ?_)
    rintro e X1 ⟨rfl, hX1⟩
    refine ⟨_, rfl, fun _ => trivial, ?_⟩
    obtain ⟨X2, hr1, ho1, hB1⟩ := HM.out X1
    have hb1 : At 3 X1 w.heap.size #[.int .i64 0] := by rw [hX1]; exact (At.new _ w.drew _).alloc _
    have hb2 : At 3 X1 (w.heap.size + 1) #[.int .i64 0] := by rw [hX1]; have := At.new 3 (w.drew.alloc (.cells #[.int .i64 0] 3)) #[.int .i64 0]; rwa [World.size_alloc] at this
    have hw1 : Below w.heap.size w X1 := by rw [hX1]; exact (((Below.refl _ w).drew).alloc (Nat.le_refl _) _).alloc (by simp) _
    clear hX1
    simp only [Act.put, List.setIfInBounds_toArray, List.set_cons_zero, List.set_cons_succ]
    refine oneL (i := 1) (o := { dst := some 11, op := Go.Op.makeSlice 48 (Go.Operand.tmp 10) (Go.Operand.tmp 10), type := 48, pos := "blockdev.go:38", after := #[{ on := 0, ground := Go.Ground.data }, { on := 0, ground := Go.Ground.data }], guard := none }) rfl (by kernel_rfl) rfl ?_
    refine wp_by_run (w' := X2) (v := .slice (some ⟨X1.heap.size, 0, none⟩) m m) (by go_simp) ⟨fun _ => trivial, ?_⟩
    simp only [Act.put, List.setIfInBounds_toArray, List.set_cons_zero, List.set_cons_succ]
    refine takeL (i := 3) (oi := { dst := some 13, op := Go.Op.build 53 #[(0, Go.Operand.tmp 11), (2, Go.Operand.tmp 12)], type := 53, pos := "blockdev.go:38", after := #[{ on := 1, ground := Go.Ground.data }, { on := 2, ground := Go.Ground.data }], guard := none }) (v := .agg #[.slice (some ⟨X1.heap.size, 0, none⟩) m m, .slice none 0 0, planF w.heap.size (w.heap.size + 1), .int .i64 0, .bool false]) [6, 5, 4] rfl (by kernel_rfl) (by kernel_rfl) (by kernel_rfl) (by kernel_rfl) (fun _ _ _ h => calm_panic h) rfl ?_ trivial ?_
    · intro W hW; go_simp
    simp only [Act.put, List.setIfInBounds_toArray, List.set_cons_zero, List.set_cons_succ]
    refine oneL (i := 4) (o := { dst := some 14, op := Go.Op.box 53 (Go.Operand.tmp 13), type := 27, pos := "blockdev.go:38", after := #[{ on := 3, ground := Go.Ground.data }], guard := none }) rfl (by kernel_rfl) rfl ?_
    refine wp_by_run (w' := X2.alloc (.cells #[.slice (some ⟨X1.heap.size, 0, none⟩) m m, .slice none 0 0, planF w.heap.size (w.heap.size + 1), .int .i64 0, .bool false] 53)) (v := .pointer (some ⟨X2.heap.size, 0, none⟩)) (by go_simp) ⟨fun _ => trivial, ?_⟩
    simp only [Act.put, List.setIfInBounds_toArray, List.set_cons_zero, List.set_cons_succ]
    refine takeL (i := 5) (oi := { dst := some 2, op := Go.Op.assign (Go.Operand.tmp 14), type := 27, pos := "blockdev.go:38", after := #[{ on := 4, ground := Go.Ground.data }, { on := 2, ground := Go.Ground.chain }, { on := 0, ground := Go.Ground.phase }, { on := 1, ground := Go.Ground.phase }, { on := 2, ground := Go.Ground.phase }, { on := 3, ground := Go.Ground.phase }, { on := 4, ground := Go.Ground.phase }], guard := none }) (v := .pointer (some ⟨X2.heap.size, 0, none⟩)) [6] rfl (by kernel_rfl) (by kernel_rfl) (by kernel_rfl) (by kernel_rfl) (fun _ _ _ h => calm_panic h) rfl ?_ trivial ?_
    · intro W hW; go_simp
    simp only [Act.put, List.setIfInBounds_toArray, List.set_cons_zero, List.set_cons_succ]
    refine oneL (i := 6) (o := { dst := some 3, op := Go.Op.assign (Go.Operand.const (Go.Value.int Go.IntKind.i64 0)), type := 28, pos := "blockdev.go:38", after := #[{ on := 5, ground := Go.Ground.chain }, { on := 0, ground := Go.Ground.phase }, { on := 1, ground := Go.Ground.phase }, { on := 2, ground := Go.Ground.phase }, { on := 3, ground := Go.Ground.phase }, { on := 4, ground := Go.Ground.phase }, { on := 5, ground := Go.Ground.phase }], guard := none }) rfl (by kernel_rfl) rfl ?_
    refine wp_by_run (w' := X2.alloc (.cells #[.slice (some ⟨X1.heap.size, 0, none⟩) m m, .slice none 0 0, planF w.heap.size (w.heap.size + 1), .int .i64 0, .bool false] 53)) (v := .int .i64 0) (by go_simp) ⟨fun h => absurd rfl h, ?_⟩
    simp only [Act.put, List.setIfInBounds_toArray, List.set_cons_zero, List.set_cons_succ]
    refine doneL (by kernel_rfl) (Calm.normal ?_) _
    go_wp2
    go_ret2
    exact HN.out X2 X1.heap.size w.heap.size (w.heap.size + 1) (hw1.trans (hB1.mono hw1.size)) (ho1) (hb1.below hb1.lt hB1) (hb2.below hb2.lt hB1) (by have := hw1.size; omega)
theorem new_no (n : Int) (h : n < 1 ∨ 65536 < n) (w : World) : Calls Try.prog 7 #[.int .i64 n] w fun e w' => e = .returned (.tuple #[.pointer none, .int .i64 2]) ∧ w = w' := by
  by_cases h0 : n < 1
  · clear h
    go_enter Try.func7, Try.ntmps7
    go_wp2
    go_ret2
    exact ⟨rfl, rfl⟩
  · have h1 : 65536 < n := by omega
    clear h
    go_enter Try.func7, Try.ntmps7
    go_wp2
    go_ret2
    exact ⟨rfl, rfl⟩
/-- A plan is laid. -/
theorem DevAt.planned {w : World} {p : Pl} {d : Dv} (h : DevAt w p d) {d' : Dv} {w1 : World} (a b : Int) (hs : d'.safe = d.safe) (hc : d'.cache = d.cache) (hk : d'.calls = d.calls) (hf : d'.frm = a) (hn : d'.num = b) (ho : d'.Ok) (hd : d'.down = d.down)
    (hw1 : w1 = (planW w a b).setCell ⟨p.D, 2, none⟩ (planF w.heap.size (w.heap.size + 1))) :
    DevAt w1 ⟨p.D, p.S, p.cS, w.heap.size, w.heap.size + 1, p.vC⟩ d' ∧ Step p ⟨p.D, p.S, p.cS, w.heap.size, w.heap.size + 1, p.vC⟩ w w1 := by
  obtain ⟨a1, a2, a3, a4, a5, a6, a7⟩ := apart_own h
  have hlt := h.dev.lt
  have b1 : At 3 (planW w a b) w.heap.size #[.int .i64 a] := (At.new _ w _).alloc _
  have b2 : At 3 (planW w a b) (w.heap.size + 1) #[.int .i64 b] := by have := At.new 3 (w.alloc (.cells #[.int .i64 a] 3)) #[.int .i64 b]; rwa [World.size_alloc] at this
  have hdev : At 53 (planW w a b) p.D _ := (h.dev.alloc _).alloc _
  have hu : Upd (fun k => k = p.D) w (planW w a b) := ((Upd.refl _ w).alloc _).alloc _
  have hu2 : Upd (fun k => k = p.D) w ((planW w a b).setCell ⟨p.D, 2, none⟩ (planF w.heap.size (w.heap.size + 1))) := hu.setCell (p := ⟨p.D, 2, none⟩) (.inl rfl) _
  rw [hw1]
  refine ⟨⟨?_, ?_, ?_, ?_, ?_, ho⟩, rfl, hu2.mono (fun j e => .inl e), fun k hk => .inl hk⟩
  · have := hdev.set 2 (planF w.heap.size (w.heap.size + 1))
    rw [hs, hk, hd]
    exact this
  · rw [hf]; exact b1.other _ (by show w.heap.size ≠ p.D; omega)
  · rw [hn]; exact b2.other _ (by show w.heap.size + 1 ≠ p.D; omega)
  · rw [hs]; exact ownsRow_upd h.safe hu2 (fun k e => by cases e; exact fun q => a1 q.symm)
  · rw [hc]; exact ownsRow_upd h.cache hu2 (fun k e q => (a2 k e).1 q)
theorem plan_any (p : Pl) (d : Dv) (w : World) (h : DevAt w p d) (n : Int) (hn : n ≤ 9223372036854775807) :
    Calls Try.prog 13 #[ptr p.D, .int .i64 n] w fun e w' => e = .returned (.int .i64 (planE d n)) ∧ ∃ p', DevAt w' p' (d.plan n) ∧ Step p p' w w' := by
  have HU := Lib.hid (up_any p d w h)
  have c3 : (planW w d.calls n).cell? ⟨p.D, 3, none⟩ = some (.int .i64 d.calls) := ((h.dev.alloc _).alloc _).cell 3
  have c3' : w.cell? ⟨p.D, 3, none⟩ = some (.int .i64 d.calls) := h.dev.cell 3
  have f2 : (planW w d.calls n).frozen? ⟨p.D, 2, none⟩ = false := ((h.dev.alloc _).alloc _).free 2
  have g2 : (planW w d.calls n).cell? ⟨p.D, 2, none⟩ = some (planF p.B1 p.B2) := ((h.dev.alloc _).alloc _).cell 2
  have ho := h.ok.plan' hn
  cases hd : d.down
  · rw [hd] at HU
    by_cases h0 : n < 0
    · have eE : planE d n = 2 := by unfold planE; rw [hd, if_neg (by simp), if_pos h0]
      have eP : d.plan n = d := by unfold Dv.plan; rw [eE, if_pos (by decide)]
      rw [eE, eP]
      have HR := Lib.hid (show DevAt w p d ∧ Step p p w w from ⟨h, Step.refl _ _⟩)
      clear h ho hd c3 c3' f2 g2 eE eP
      go_enter Try.func13, Try.ntmps13
      go_wp2_with (refine HU.out.mono ?_; rintro e w' ⟨rfl, rfl⟩; simp only [downE])
      go_ret
      exact ⟨rfl, _, HR.out⟩
    · have eE : planE d n = 0 := by unfold planE; rw [hd, if_neg (by simp), if_neg h0]
      have eP : d.plan n = { d with frm := d.calls, num := n } := by unfold Dv.plan; rw [eE, if_neg (by decide)]
      rw [eP] at ho
      rw [eE, eP]
      have HR := Lib.hid (h.planned (d' := { d with frm := d.calls, num := n }) d.calls n rfl rfl rfl rfl rfl ho rfl rfl)
      obtain ⟨X, hX⟩ : ∃ X, X = planW w d.calls n := ⟨_, rfl⟩
      rw [← hX] at c3 f2 g2
      dsimp only [planF] at g2
      have HP := Lib.hid (planFrom_any d.calls n w)
      have HX := Lib.hid hX
      clear h ho hd eE eP hX
      go_enter Try.func13, Try.ntmps13
      go_wp2_with (first | (go_at_call 37; refine HU.out.mono ?_; rintro e w' ⟨rfl, rfl⟩; simp only [downE]) | (go_at_call 23; refine HP.out.mono ?_; rintro e w' ⟨rfl, hw'⟩; rw [← HX.out] at hw'; subst hw'; dsimp only [planF]))
      go_ret
      have hr := HR.out
      rw [← HX.out] at hr
      exact ⟨rfl, _, hr⟩
  · rw [hd] at HU
    have eE : planE d n = 120 := by unfold planE; rw [hd, if_pos rfl]
    have eP : d.plan n = d := by unfold Dv.plan; rw [eE, if_pos (by decide)]
    rw [eE, eP]
    have HR := Lib.hid (show DevAt w p d ∧ Step p p w w from ⟨h, Step.refl _ _⟩)
    clear h ho hd c3 c3' f2 g2 eE eP
    go_enter Try.func13, Try.ntmps13
    go_wp2_with (refine HU.out.mono ?_; rintro e w' ⟨rfl, rfl⟩; simp only [downE])
    go_ret
    exact ⟨rfl, _, HR.out⟩
end Go.Proofs.Ytpcbolmidnoaiaa
