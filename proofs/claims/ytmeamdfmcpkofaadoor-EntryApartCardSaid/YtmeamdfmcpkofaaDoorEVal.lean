/- Entries and their numbers in memory: whole loads and stores. -/
import Derived.Test.YtmeamdfmcpkofaaDoorELay
import Derived.IntWalk
import Derived.Deep.MidRow
set_option linter.unusedVariables false
set_option linter.unusedSimpArgs false
namespace Go.Proofs.YtmeamdfmcpkofaaDoor
open Go.RowKit Go.Shelf
/-- An entry in memory, as a value. -/
def enV (x : En) : Array Value := #[.int .i64 x.kind, .int .i64 x.meter, .int .i64 x.start, .int .i64 x.energy, .int .i64 x.band, .int .i64 x.price, .int .i64 x.cost, .int .i64 x.flags, .int .u32 x.count, .int .u64 x.seq] ++ nums .u8 32 (bf x.hash)
theorem enV_size (x : En) : (enV x).size = 42 := by simp [enV, nums_size]
theorem enV_get (x : En) : (enV x)[0]? = some (.int .i64 x.kind) ∧ (enV x)[1]? = some (.int .i64 x.meter) ∧ (enV x)[2]? = some (.int .i64 x.start) ∧ (enV x)[3]? = some (.int .i64 x.energy) ∧ (enV x)[4]? = some (.int .i64 x.band) ∧
    (enV x)[5]? = some (.int .i64 x.price) ∧ (enV x)[6]? = some (.int .i64 x.cost) ∧ (enV x)[7]? = some (.int .i64 x.flags) ∧ (enV x)[8]? = some (.int .u32 x.count) ∧ (enV x)[9]? = some (.int .u64 x.seq) := by
  simp [enV, Array.getElem?_append]
theorem enV_hash (x : En) (j : Nat) (h : j < 32) : (enV x)[10 + j]? = some (.int .u8 (bf x.hash j)) := by
  unfold enV
  rw [Array.getElem?_append_right (by simp)]
  simp only [List.size_toArray, List.length_cons, List.length_nil, Nat.zero_add, Nat.reduceAdd, Nat.add_sub_cancel_left]
  exact nums_get _ _ _ _ h
theorem enV_one (x : En) : (enV x).all (·.oneCell') = true := by
  unfold enV
  rw [Array.all_append, nums_one]
  simp [Value.oneCell']
theorem numsA (x : En) : nums .u64 9 (num x) = #[.int .u64 (u64 x.meter), .int .u64 (u64 x.start), .int .u64 (u64 x.energy), .int .u64 (u64 x.band), .int .u64 (u64 x.price), .int .u64 (u64 x.cost), .int .u64 (u64 x.flags), .int .u64 x.count, .int .u64 x.seq] := rfl
theorem wrap_u64 (n : Int) : IntKind.u64.wrap n = u64 n := by simp [IntKind.wrap, IntKind.bits, IntKind.signed, u64]
theorem at_second {T T' : TypeId} (w : World) (cs cs' : Array Value) : At T' ((w.alloc (.cells cs T)).alloc (.cells cs' T')) (w.heap.size + 1) cs' := by
  have h := At.new T' (w.alloc (.cells cs T)) cs'
  rwa [World.size_alloc] at h
theorem at_third {T : TypeId} (w : World) (o o' : Obj) (cs : Array Value) : At T (((w.alloc o).alloc o').alloc (.cells cs T)) (w.heap.size + 1 + 1) cs := by
  have h := At.new T ((w.alloc o).alloc o') cs
  rwa [World.size_alloc, World.size_alloc] at h
theorem size_nums (f : Nat → Int) : (Tryd.prog.info? 61).map (·.size) = some (nums .u64 9 f).size := by rw [nums_size]; kernel_rfl
theorem size_en (x : En) : (Tryd.prog.info? 27).map (·.size) = some (enV x).size := by rw [enV_size]; kernel_rfl
section
variable {ops : Array Oper} {rest : List Oper} {o : Oper} {a : Act} {w : World} {Q : Exit → Act → World → Prop} {x y : Operand} {g : Nat}
theorem load_en {X : En} (hg : At 27 w g (enV X)) (hgd : o.guard = none) (ho : o.op = .load 27 x) (hx : a.eval x = .pointer (some ⟨g, 0, none⟩))
    (h : wpList Tryd.prog ops Q rest (a.put o.dst (.agg (enV X))) w) : wpList Tryd.prog ops Q (o :: rest) a w :=
  wpList_load_row hgd 27 x ho g hx _ _ _ _ hg Tryd.underlying27 rfl (size_en X) h
theorem store_en {X : En} {cs : Array Value} (hg : At 27 w g cs) (hs : cs.size = 42) (hgd : o.guard = none) (ho : o.op = .store 27 x y) (hx : a.eval x = .pointer (some ⟨g, 0, none⟩)) (hy : a.eval y = .agg (enV X))
    (h : wpList Tryd.prog ops Q rest (a.put o.dst undef) (w.setRow g (enV X))) : wpList Tryd.prog ops Q (o :: rest) a w :=
  wpList_store_row hgd 27 x y ho g (enV X) hx hy _ _ hg (size_en X) (by rw [enV_size, hs]) (enV_one X) h
theorem load_num {f : Nat → Int} (hg : At 61 w g (nums .u64 9 f)) (hgd : o.guard = none) (ho : o.op = .load 61 x) (hx : a.eval x = .pointer (some ⟨g, 0, none⟩))
    (h : wpList Tryd.prog ops Q rest (a.put o.dst (.agg (nums .u64 9 f))) w) : wpList Tryd.prog ops Q (o :: rest) a w :=
  wpList_load_row hgd 61 x ho g hx _ _ _ _ hg Tryd.underlying61 rfl (size_nums f) h
theorem store_num {f : Nat → Int} {cs : Array Value} (hg : At 61 w g cs) (hs : cs.size = 9) (hgd : o.guard = none) (ho : o.op = .store 61 x y) (hx : a.eval x = .pointer (some ⟨g, 0, none⟩)) (hy : a.eval y = .agg (nums .u64 9 f))
    (h : wpList Tryd.prog ops Q rest (a.put o.dst undef) (w.setRow g (nums .u64 9 f))) : wpList Tryd.prog ops Q (o :: rest) a w :=
  wpList_store_row hgd 61 x y ho g (nums .u64 9 f) hx hy _ _ hg (size_nums f) (by rw [nums_size, hs]) (nums_one _ _ _) h
theorem built_en (X : En) : Tryd.prog.built 27 [(0, .int .i64 X.kind), (1, .int .i64 X.meter), (2, .int .i64 X.start), (3, .int .i64 X.energy), (4, .int .i64 X.band), (5, .int .i64 X.price), (6, .int .i64 X.cost), (7, .int .i64 X.flags), (8, .int .u32 X.count), (9, .int .u64 X.seq), (10, .agg (nums .u8 32 (bf X.hash)))] = some (enV X) := by kernel_rfl
theorem build_en {X : En} {ps : Array (Nat × Operand)} (hgd : o.guard = none) (ho : o.op = .build 27 ps)
    (hp : (ps.map fun (i, x) => (i, a.eval x)).toList = [(0, .int .i64 X.kind), (1, .int .i64 X.meter), (2, .int .i64 X.start), (3, .int .i64 X.energy), (4, .int .i64 X.band), (5, .int .i64 X.price), (6, .int .i64 X.cost), (7, .int .i64 X.flags), (8, .int .u32 X.count), (9, .int .u64 X.seq), (10, .agg (nums .u8 32 (bf X.hash)))])
    (h : wpList Tryd.prog ops Q rest (a.put o.dst (.agg (enV X))) w) : wpList Tryd.prog ops Q (o :: rest) a w := by
  refine wpList_build hgd 27 ps ho ?_ ?_
  · rw [hp, built_en]; rfl
  · rw [hp, built_en]; exact h
def noEn : En := ⟨0, 0, 0, 0, 0, 0, 0, 0, 0, 0, zeros⟩
theorem built_no : Tryd.prog.built 27 [] = some (enV noEn) := by kernel_rfl
theorem build_no (hgd : o.guard = none) (ho : o.op = .build 27 #[])
    (h : wpList Tryd.prog ops Q rest (a.put o.dst (.agg (enV noEn))) w) : wpList Tryd.prog ops Q (o :: rest) a w := by
  have e : ((#[] : Array (Nat × Operand)).map fun (i, x) => (i, a.eval x)).toList = [] := by simp
  refine wpList_build hgd 27 #[] ho ?_ ?_
  · rw [e, built_no]; rfl
  · rw [e, built_no]; exact h
end
theorem zero_en : (Tryd.prog.info? 27).map (fun i => (i.zero, i.size)) = some (some (.agg (enV noEn)), 42) := by kernel_rfl
theorem zero_num : (Tryd.prog.info? 61).map (fun i => (i.zero, i.size)) = some (some (.agg (nums .u64 9 fun _ => 0)), 9) := by kernel_rfl
theorem results_en {fn : Func} {p : Tmp} {X : En} (h : fn.results = #[.cell p 27]) (tmps : Array Value) (w : World) (g : Nat) (hp : tmps.getD p undef = .pointer (some ⟨g, 0, none⟩)) (hg : At 27 w g (enV X)) :
    (results fn tmps).run Tryd.prog w = .ok (.agg (enV X)) w := results_cell_row h tmps w g _ _ _ _ hp hg Tryd.underlying27 rfl (size_en X)
theorem results_en2 {fn : Func} {p q : Tmp} {X : En} (h : fn.results = #[.cell p 27, .tmp q]) (tmps : Array Value) (w : World) (g : Nat) (v : Value) (hp : tmps.getD p undef = .pointer (some ⟨g, 0, none⟩)) (hq : tmps.getD q undef = v) (hg : At 27 w g (enV X)) :
    (results fn tmps).run Tryd.prog w = .ok (.tuple #[.agg (enV X), v]) w := by
  have hp' : tmps[p]?.getD undef = .pointer (some ⟨g, 0, none⟩) := by simpa using hp
  have hq' : tmps[q]?.getD undef = v := by simpa using hq
  simp [results, h, hp', hq', asAddr, run_loadVar_row w g _ _ _ _ _ hg Tryd.underlying27 rfl (size_en X)]
end Go.Proofs.YtmeamdfmcpkofaaDoor
