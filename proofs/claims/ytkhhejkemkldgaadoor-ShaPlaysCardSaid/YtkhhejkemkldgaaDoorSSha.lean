/- A Sha in memory; the contract of current. -/
import Derived.Test.YtkhhejkemkldgaaDoorSPlus
import Derived.Test.YtkhhejkemkldgaaDoorSRound
import Derived.Test.YtkhhejkemkldgaaDoorSCopy
import Derived.StillTailTactics
set_option linter.unusedVariables false
namespace Go.Proofs.YtkhhejkemkldgaaDoor
open Go.RowKit Go.Shelf
/-- The cells of a Sha. -/
def shaC (A : List Nat) (f : Nat → Int) (n : Int) : Array Value := nums .u32 8 (wf A) ++ (nums .u8 64 f ++ #[.int .u64 n])
theorem shaC_size (A : List Nat) (f : Nat → Int) (n : Int) : (shaC A f n).size = 73 := by simp [shaC, nums_size]
theorem shaC_get (A : List Nat) (f : Nat → Int) (n : Int) (i : Nat) : (shaC A f n)[i]? = if i < 8 then some (.int .u32 (wf A i)) else if i < 72 then some (.int .u8 (f (i - 8))) else if i = 72 then some (.int .u64 n) else none := by
  unfold shaC
  by_cases h1 : i < 8
  · rw [if_pos h1, Array.getElem?_append_left (by rw [nums_size]; exact h1), nums_get _ _ _ _ h1]
  · rw [if_neg h1, Array.getElem?_append_right (by rw [nums_size]; omega), nums_size]
    by_cases h2 : i < 72
    · rw [if_pos h2, Array.getElem?_append_left (by rw [nums_size]; omega), nums_get _ _ _ _ (by omega)]
    · rw [if_neg h2, Array.getElem?_append_right (by rw [nums_size]; omega), nums_size]
      by_cases h3 : i = 72
      · subst h3; rfl
      · rw [if_neg h3, Array.getElem?_eq_none (by simp; omega)]
/-- Where a Sha lies: in block S, from cell o on, in a block of type T; ahead of it and behind it other cells. -/
structure Loc where
  (T : TypeId) (S o : Nat) (pre post : Array Value)
  ho : pre.size = o
def Loc.sha (S : Nat) : Loc := ⟨32, S, 0, #[], #[], rfl⟩
def Loc.cells (Z : Loc) (A : List Nat) (f : Nat → Int) (n : Int) : Array Value := Z.pre ++ (shaC A f n ++ Z.post)
theorem Loc.size (Z : Loc) (A : List Nat) (f : Nat → Int) (n : Int) : (Z.cells A f n).size = Z.o + 73 + Z.post.size := by
  have := Z.ho
  simp [Loc.cells, shaC_size]; omega
theorem Loc.get (Z : Loc) (A : List Nat) (f : Nat → Int) (n : Int) (i : Nat) : (Z.cells A f n)[i]? = if i < Z.o then Z.pre[i]? else if i < Z.o + 73 then (shaC A f n)[i - Z.o]? else Z.post[i - Z.o - 73]? := by
  have h := Z.ho
  unfold Loc.cells
  by_cases h1 : i < Z.o
  · rw [if_pos h1, Array.getElem?_append_left (by omega)]
  · rw [if_neg h1, Array.getElem?_append_right (by omega), h]
    by_cases h2 : i < Z.o + 73
    · rw [if_pos h2, Array.getElem?_append_left (by rw [shaC_size]; omega)]
    · rw [if_neg h2, Array.getElem?_append_right (by rw [shaC_size]; omega), shaC_size]
theorem Loc.at (Z : Loc) (A : List Nat) (f : Nat → Int) (n : Int) (i : Nat) (hi : i < 73) : (Z.cells A f n)[Z.o + i]? = (shaC A f n)[i]? := by
  rw [Z.get, if_neg (by omega), if_pos (by omega), Nat.add_sub_cancel_left]
def ShaInL (W : World) (Z : Loc) (A : List Nat) (f : Nat → Int) (n : Int) : Prop := At Z.T W Z.S (Z.cells A f n)
/-- A Sha that fills block S. -/
def ShaIn (W : World) (S : Nat) (A : List Nat) (f : Nat → Int) (n : Int) : Prop := At 32 W S (shaC A f n)
theorem shaIn_plain {W : World} {S : Nat} {A : List Nat} {f : Nat → Int} {n : Int} : ShaInL W (Loc.sha S) A f n ↔ ShaIn W S A f n := by
  unfold ShaInL Loc.cells Loc.sha ShaIn
  simp only [Array.empty_append, Array.append_empty]
def setMany (cs : Array Value) : Nat → List Value → Array Value
  | _, [] => cs
  | o, v :: vs => setMany (cs.setIfInBounds o v) (o + 1) vs
theorem At.many {T : TypeId} {b : Nat} : ∀ (vs : List Value) (o : Nat) (cs : Array Value) (W : World), At T W b cs → At T (W.setCells b o vs) b (setMany cs o vs)
  | [], _, _, _, h => h
  | v :: vs, o, cs, W, h => At.many vs (o + 1) _ _ (h.set o v)
theorem setMany_get : ∀ (vs : List Value) (o : Nat) (cs : Array Value) (i : Nat), (setMany cs o vs)[i]? = if o ≤ i ∧ i < o + vs.length ∧ i < cs.size then vs[i - o]? else cs[i]?
  | [], o, cs, i => by rw [if_neg (by simp; omega)]; rfl
  | v :: vs, o, cs, i => by
    show (setMany (cs.setIfInBounds o v) (o + 1) vs)[i]? = _
    rw [setMany_get vs (o + 1), Array.size_setIfInBounds, Array.getElem?_setIfInBounds, List.length_cons]
    by_cases h1 : o + 1 ≤ i ∧ i < o + 1 + vs.length ∧ i < cs.size
    · rw [if_pos h1, if_pos (by omega), show i - o = i - (o + 1) + 1 by omega]; rfl
    · rw [if_neg h1]
      by_cases h2 : o = i
      · subst h2
        by_cases h3 : o < cs.size
        · rw [if_pos rfl, if_pos h3, if_pos (by omega)]; simp
        · rw [if_pos rfl, if_neg h3, if_neg (by omega), Array.getElem?_eq_none (by omega)]
      · rw [if_neg h2, if_neg (by omega)]
theorem nums_list_get (k : IntKind) (n : Nat) (f : Nat → Int) (j : Nat) (h : j < n) : (nums k n f).toList[j]? = some (.int k (f j)) := by
  rw [Array.getElem?_toList]; exact nums_get k n f j h
theorem setMany_size : ∀ (vs : List Value) (o : Nat) (cs : Array Value), (setMany cs o vs).size = cs.size
  | [], _, _ => rfl
  | v :: vs, o, cs => by rw [setMany, setMany_size vs]; exact Array.size_setIfInBounds
theorem Loc.put (Z : Loc) (A A' : List Nat) (f f' : Nat → Int) (n n' : Int) (k : Nat) (vs : List Value) (hk : k + vs.length ≤ 73)
    (h : ∀ i, i < 73 → (shaC A' f' n')[i]? = if k ≤ i ∧ i < k + vs.length then vs[i - k]? else (shaC A f n)[i]?) : setMany (Z.cells A f n) (Z.o + k) vs = Z.cells A' f' n' := by
  apply Array.ext_getElem?
  intro i
  rw [setMany_get, Z.size, Z.get A', Z.get A]
  by_cases h1 : i < Z.o
  · rw [if_neg (by omega), if_pos h1, if_pos h1]
  · by_cases h2 : i < Z.o + 73
    · simp only [if_neg h1, if_pos h2]
      rw [h (i - Z.o) (by omega)]
      by_cases h3 : k ≤ i - Z.o ∧ i - Z.o < k + vs.length
      · rw [if_pos (by omega), if_pos h3]; congr 1; omega
      · rw [if_neg (by omega), if_neg h3]
    · rw [if_neg (by omega)]; simp only [if_neg h1, if_neg h2]
theorem ShaInL.added {W : World} {Z : Loc} {A A' : List Nat} {f : Nat → Int} {n : Int} (h : ShaInL W Z A f n) : ShaInL (W.setCells Z.S Z.o (nums .u32 8 (wf A')).toList) Z A' f n := by
  have := At.many (nums .u32 8 (wf A')).toList Z.o _ _ h
  rw [show setMany (Z.cells A f n) Z.o (nums .u32 8 (wf A')).toList = Z.cells A' f n from ?_] at this
  · exact this
  refine Z.put A A' f f n n 0 _ (by rw [Array.length_toList, nums_size]; omega) fun i hi => ?_
  rw [shaC_get, shaC_get, Array.length_toList, nums_size]
  by_cases h1 : i < 8
  · rw [if_pos h1, if_pos (show 0 ≤ i ∧ i < 0 + 8 by omega), Nat.sub_zero, nums_list_get _ _ _ _ h1]
  · rw [if_neg h1, if_neg (show ¬ (0 ≤ i ∧ i < 0 + 8) by omega), if_neg h1]
theorem ShaInL.rest {W : World} {Z : Loc} {A : List Nat} {f f' : Nat → Int} {n : Int} (h : ShaInL W Z A f n) : ShaInL (W.setCells Z.S (Z.o + 8) (nums .u8 64 f').toList) Z A f' n := by
  have := At.many (nums .u8 64 f').toList (Z.o + 8) _ _ h
  rw [show setMany (Z.cells A f n) (Z.o + 8) (nums .u8 64 f').toList = Z.cells A f' n from ?_] at this
  · exact this
  refine Z.put A A f f' n n 8 _ (by rw [Array.length_toList, nums_size]; omega) fun i hi => ?_
  rw [shaC_get, shaC_get, Array.length_toList, nums_size]
  by_cases h1 : i < 8
  · rw [if_pos h1, if_neg (show ¬ (8 ≤ i ∧ i < 8 + 64) by omega), if_pos h1]
  · by_cases h2 : i < 72
    · rw [if_neg h1, if_pos h2, if_pos (show 8 ≤ i ∧ i < 8 + 64 by omega), nums_list_get _ _ _ _ (by omega)]
    · rw [if_neg (show ¬ (8 ≤ i ∧ i < 8 + 64) by omega)]; simp only [if_neg h1, if_neg h2]
theorem ShaInL.len {W : World} {Z : Loc} {A : List Nat} {f : Nat → Int} {n : Int} (h : ShaInL W Z A f n) (n' : Int) : ShaInL (W.setCell ⟨Z.S, Z.o + 72, none⟩ (.int .u64 n')) Z A f n' := by
  have := At.many [.int .u64 n'] (Z.o + 72) _ _ h
  rw [show setMany (Z.cells A f n) (Z.o + 72) [.int .u64 n'] = Z.cells A f n' from ?_] at this
  · exact this
  refine Z.put A A f f n n' 72 _ (by simp) fun i hi => ?_
  rw [shaC_get, shaC_get]
  by_cases h1 : 72 = i
  · subst h1; simp
  · rw [if_neg (show ¬ (72 ≤ i ∧ i < 72 + [Value.int .u64 n'].length) by simp; omega)]
    by_cases h2 : i < 8
    · rw [if_pos h2, if_pos h2]
    · simp only [if_neg h2, if_pos (show i < 72 by omega)]
theorem ShaInL.cell72 {W : World} {Z : Loc} {A : List Nat} {f : Nat → Int} {n : Int} (h : ShaInL W Z A f n) : W.cell? ⟨Z.S, Z.o + 72, none⟩ = some (.int .u64 n) := by
  rw [At.cell h, Z.at _ _ _ _ (by decide), shaC_get]; rfl
theorem ShaInL.cellR {W : World} {Z : Loc} {A : List Nat} {f : Nat → Int} {n : Int} (h : ShaInL W Z A f n) (j : Nat) (hj : j < 64) : W.cell? ⟨Z.S, Z.o + 8 + j, none⟩ = some (.int .u8 (f j)) := by
  rw [Nat.add_assoc, At.cell h, Z.at _ _ _ _ (by omega), shaC_get, if_neg (by omega), if_pos (by omega), show 8 + j - 8 = j by omega]
theorem ShaInL.rangeA {W : World} {Z : Loc} {A : List Nat} {f : Nat → Int} {n : Int} (h : ShaInL W Z A f n) : W.rangeAt Z.S Z.o (nums .u32 8 (wf A)).toList := fun j v hv => by
  have hj : j < 8 := by have := (List.getElem?_eq_some_iff.1 hv).1; rwa [Array.length_toList, nums_size] at this
  rw [nums_list_get _ _ _ _ hj] at hv
  rw [At.cell h, Z.at _ _ _ _ (by omega), shaC_get, if_pos hj]; exact hv
theorem ShaInL.there {W : World} {Z : Loc} {A : List Nat} {f : Nat → Int} {n : Int} (h : ShaInL W Z A f n) (o m : Nat) (hm : o + m ≤ 73) : W.there Z.S (Z.o + o) m := fun j hj => by
  refine ⟨?_, At.free h _⟩
  rw [At.cell h, Array.getElem?_eq_getElem (by rw [Z.size]; omega)]; rfl
/-- The added state is read. -/
theorem load_added (W : World) (Z : Loc) (A : List Nat) (f : Nat → Int) (n : Int) (h : ShaInL W Z A f n) : (Instr.loadAt 27 (.pointer (some ⟨Z.S, Z.o, none⟩))).run Tryd.prog W = .ok (.agg (nums .u32 8 (wf A))) W := by
  have := run_loadAt_mid (P := Tryd.prog) W Z.S Z.o 27 _ _ h.rangeA Tryd.underlying27 rfl (by rw [Array.length_toList]; exact size_state _)
  rw [Array.toArray_toList] at this
  exact this
theorem load_state_run (W : World) (g : Nat) (f : Nat → Int) (h : At 27 W g (nums .u32 8 f)) : (Instr.loadAt 27 (.pointer (some ⟨g, 0, none⟩))).run Tryd.prog W = .ok (.agg (nums .u32 8 f)) W := by
  simp only [Instr.loadAt, Instr.sureAddr, Sem.run_bind, Sem.run_pure, Result.andThen_ok, run_loadVar_row W g _ 27 _ _ _ h Tryd.underlying27 rfl (size_state f)]
theorem load_added_var (W : World) (Z : Loc) (A : List Nat) (f : Nat → Int) (n : Int) (h : ShaInL W Z A f n) : (loadVar 27 ⟨Z.S, Z.o, none⟩).run Tryd.prog W = .ok (.agg (nums .u32 8 (wf A))) W := by
  have := run_loadVar_mid (P := Tryd.prog) W Z.S Z.o 27 _ _ h.rangeA Tryd.underlying27 rfl (by rw [Array.length_toList]; exact size_state _)
  rw [Array.toArray_toList] at this
  exact this
theorem load_state_var (W : World) (g : Nat) (f : Nat → Int) (h : At 27 W g (nums .u32 8 f)) : (loadVar 27 ⟨g, 0, none⟩).run Tryd.prog W = .ok (.agg (nums .u32 8 f)) W :=
  run_loadVar_row W g _ 27 _ _ _ h Tryd.underlying27 rfl (size_state f)
theorem still_val {P : Program} {ops : Array Oper} {w : World} {Q : Act → Prop} {o : Oper} {rest : List Oper} {a : Act} {v : Value} (hg : o.guard = none) (hrun : (execOp a.eval o).run P w = .ok (.value v) w) (h : wpStill P ops w Q rest (a.put o.dst v)) : wpStill P ops w Q (o :: rest) a := by
  show if Region.wanted o (yielded ops a.tmps) then _ else _
  rw [if_pos (by simp [Region.wanted, hg])]
  unfold Oper.still
  rw [hrun, Oper.stillUpon_value]; exact h
theorem exec_load {T : TypeId} {o : Oper} {a : Act} {x : Operand} {w : World} {p : Addr} {v : Value} (ho : o.op = .load T x) (hx : a.eval x = .pointer (some p)) (h : (loadVar T p).run Tryd.prog w = .ok v w) : (execOp a.eval o).run Tryd.prog w = .ok (.value v) w := by
  unfold execOp
  simp only [ho, hx, Instr.loadAt, Instr.sureAddr, Sem.run_bind, Sem.run_pure, Result.andThen_ok, h]
theorem load_tab_var (W : World) (g : Nat) (f : Nat → Int) (h : Tab W g (nums .u32 8 f)) : (loadVar 27 ⟨g, 0, none⟩).run Tryd.prog W = .ok (.agg (nums .u32 8 f)) W := by
  obtain ⟨T, fr, h⟩ := h
  exact run_loadVar_row W g T 27 _ fr _ h Tryd.underlying27 rfl (size_state f)
theorem region_tail {P : Program} {id : Nat} {a : Act} {w : World} {Q : Exit → Act → World → Prop} {l : List Oper} (m : Nat) (hm : P.follows .mixedOrders = true) (hB : Region.lexTailB .any l.toArray m = true)
    (h : wpStill P l.toArray w.drew (fun a' => wpList P l.toArray Q (l.drop m) a' w.drew) (l.take m) a) : (Code.region id l.toArray true).wp P Q a w := wp_region_still_tail m hm hB h
set_option maxRecDepth 100000 in
set_option maxHeartbeats 1000000 in
theorem currentL_any (Z : Loc) (A : List Nat) (f : Nat → Int) (n : Int) (hA : Words A) (w : World) (hT : Tabs w) (hS : ShaInL w Z A f n) :
    Calls Tryd.prog 29 #[.pointer (some ⟨Z.S, Z.o, none⟩)] w fun e w' => e = .returned (.agg (nums .u32 8 (wf (plus initial A)))) ∧ Below w.heap.size w w' := by
  have hz := (zero_of_info zero_state).1
  have l1 := load_tab_var (w.alloc (.cells (nums .u32 8 fun _ => 0) 27)).drew 1 (wf initial) (hT.alloc _).drew.2
  have l2 := load_added_var (w.alloc (.cells (nums .u32 8 fun _ => 0) 27)).drew Z A f n (At.drew (At.alloc hS _))
  have hp := plus_any initial A initial_words hA (w.alloc (.cells (nums .u32 8 fun _ => 0) 27)).drew
  have HR := Lib.hid ((At.new 27 w (nums .u32 8 fun _ => 0)).drew)
  have HB := Lib.hid (((Below.refl _ w).alloc (Nat.le_refl _) (.cells (nums .u32 8 fun _ => 0) 27)).drew)
  have HP := Lib.hid hp
  clear hT hS hA hp
  go_enter Tryd.func29, Tryd.ntmps29
  go_wp2
  refine region_tail 5 (by kernel_rfl) (by kernel_rfl) ?_
  simp only [List.take_succ_cons, List.take_zero, List.drop_succ_cons, List.drop_zero]
  refine still_val rfl (exec_load rfl rfl l1) ?_
  have L2 := Lib.hid l2
  clear l2 l1
  still_step
  still_step
  still_step
  refine still_val rfl (exec_load rfl rfl L2.out) ?_
  refine wpStill_nil ?_
  clear L2
  generalize (w.alloc (.cells (nums .u32 8 fun _ => 0) 27)).drew = w2 at *
  go_wp2_with (first | (go_at_call 27; refine HP.out.mono ?_; rintro e w3 ⟨rfl, hB3⟩; have HR3 := Lib.hid (HR.out.below HR.out.lt hB3); have HB3 := Lib.hid hB3; clear hB3) | (refine store_state HR3.out rfl rfl rfl rfl ?_))
  exact bodyPost_ret (v := .agg (nums .u32 8 (wf (plus initial A)))) (results_state rfl _ _ w.heap.size _ rfl HR3.out.row) rfl ⟨rfl, below_row (HB.out.trans (HB3.out.mono HB.out.size)) (Nat.le_refl _) _⟩
theorem ShaIn.cell72 {W : World} {S : Nat} {A : List Nat} {f : Nat → Int} {n : Int} (h : ShaIn W S A f n) : W.cell? ⟨S, 72, none⟩ = some (.int .u64 n) := by
  rw [At.cell h, shaC_get]; rfl
theorem current_any (S : Nat) (A : List Nat) (f : Nat → Int) (n : Int) (hA : Words A) (w : World) (hT : Tabs w) (hS : ShaIn w S A f n) :
    Calls Tryd.prog 29 #[.pointer (some ⟨S, 0, none⟩)] w fun e w' => e = .returned (.agg (nums .u32 8 (wf (plus initial A)))) ∧ Below w.heap.size w w' :=
  currentL_any (Loc.sha S) A f n hA w hT (shaIn_plain.2 hS)
end Go.Proofs.YtkhhejkemkldgaaDoor
