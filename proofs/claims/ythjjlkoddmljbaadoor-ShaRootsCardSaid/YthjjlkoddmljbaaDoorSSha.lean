/- A Sha in memory; the contract of current. -/
import Derived.Test.YthjjlkoddmljbaaDoorSPlus
import Derived.Test.YthjjlkoddmljbaaDoorSRound
import Derived.Test.YthjjlkoddmljbaaDoorSCopy
import Derived.StillTailTactics
set_option linter.unusedVariables false
namespace Go.Proofs.YthjjlkoddmljbaaDoor
open Go.RowKit Go.Shelf
/-- The cells of a Sha. -/
def shaC (A : List Nat) (f : Nat → Int) (n : Int) : Array Value := nums .u32 8 (wf A) ++ (nums .u8 64 f ++ #[.int .u64 n])
theorem shaC_size (A : List Nat) (f : Nat → Int) (n : Int) : (shaC A f n).size = 73 := by simp [shaC, nums_size]
theorem shaC_get (A : List Nat) (f : Nat → Int) (n : Int) (i : Nat) : (shaC A f n)[i]? = if i < 8 then some (.int .u32 (wf A i)) else if i < 72 then some (.int .u8 (f (i - 8))) else if i = 72 then some (.int .u64 n) else none := by
  unfold shaC
  by_cases h1 : i < 8
  · rw [if_pos h1, Array.getElem?_append_left (by rw [nums_size]; exact h1), nums_get _ _ _ _ h1]
  · rw [if_neg h1, Array.getElem?_append_right (by rw [nums_size]; omega), nums_size]
    by_cases h2 : i < 72
    · rw [if_pos h2, Array.getElem?_append_left (by rw [nums_size]; omega), nums_get _ _ _ _ (by omega)]
    · rw [if_neg h2, Array.getElem?_append_right (by rw [nums_size]; omega), nums_size]
      by_cases h3 : i = 72
      · subst h3; rfl
      · rw [if_neg h3, Array.getElem?_eq_none (by simp; omega)]
def ShaIn (W : World) (S : Nat) (A : List Nat) (f : Nat → Int) (n : Int) : Prop := At 32 W S (shaC A f n)
def setMany (cs : Array Value) : Nat → List Value → Array Value
  | _, [] => cs
  | o, v :: vs => setMany (cs.setIfInBounds o v) (o + 1) vs
theorem At.many {T : TypeId} {b : Nat} : ∀ (vs : List Value) (o : Nat) (cs : Array Value) (W : World), At T W b cs → At T (W.setCells b o vs) b (setMany cs o vs)
  | [], _, _, _, h => h
  | v :: vs, o, cs, W, h => At.many vs (o + 1) _ _ (h.set o v)
theorem setMany_get : ∀ (vs : List Value) (o : Nat) (cs : Array Value) (i : Nat), (setMany cs o vs)[i]? = if o ≤ i ∧ i < o + vs.length ∧ i < cs.size then vs[i - o]? else cs[i]?
  | [], o, cs, i => by rw [if_neg (by simp; omega)]; rfl
  | v :: vs, o, cs, i => by
    show (setMany (cs.setIfInBounds o v) (o + 1) vs)[i]? = _
    rw [setMany_get vs (o + 1), Array.size_setIfInBounds, Array.getElem?_setIfInBounds, List.length_cons]
    by_cases h1 : o + 1 ≤ i ∧ i < o + 1 + vs.length ∧ i < cs.size
    · rw [if_pos h1, if_pos (by omega), show i - o = i - (o + 1) + 1 by omega]; rfl
    · rw [if_neg h1]
      by_cases h2 : o = i
      · subst h2
        by_cases h3 : o < cs.size
        · rw [if_pos rfl, if_pos h3, if_pos (by omega)]; simp
        · rw [if_pos rfl, if_neg h3, if_neg (by omega), Array.getElem?_eq_none (by omega)]
      · rw [if_neg h2, if_neg (by omega)]
theorem nums_list_get (k : IntKind) (n : Nat) (f : Nat → Int) (j : Nat) (h : j < n) : (nums k n f).toList[j]? = some (.int k (f j)) := by
  rw [Array.getElem?_toList]; exact nums_get k n f j h
theorem ShaIn.added {W : World} {S : Nat} {A A' : List Nat} {f : Nat → Int} {n : Int} (h : ShaIn W S A f n) : ShaIn (W.setCells S 0 (nums .u32 8 (wf A')).toList) S A' f n := by
  have := At.many (nums .u32 8 (wf A')).toList 0 _ _ h
  have e : setMany (shaC A f n) 0 (nums .u32 8 (wf A')).toList = shaC A' f n := by
    apply Array.ext_getElem?
    intro i
    rw [setMany_get, shaC_get, shaC_get, shaC_size, Array.length_toList, nums_size]
    by_cases h1 : i < 8
    · rw [if_pos (by omega), if_pos h1, Nat.sub_zero, nums_list_get _ _ _ _ h1]
    · rw [if_neg (by omega), if_neg h1, if_neg h1]
  rw [e] at this
  exact this
theorem ShaIn.rest {W : World} {S : Nat} {A : List Nat} {f f' : Nat → Int} {n : Int} (h : ShaIn W S A f n) : ShaIn (W.setCells S 8 (nums .u8 64 f').toList) S A f' n := by
  have := At.many (nums .u8 64 f').toList 8 _ _ h
  have e : setMany (shaC A f n) 8 (nums .u8 64 f').toList = shaC A f' n := by
    apply Array.ext_getElem?
    intro i
    rw [setMany_get, shaC_get, shaC_get, shaC_size, Array.length_toList, nums_size]
    by_cases h1 : i < 8
    · rw [if_neg (by omega), if_pos h1, if_pos h1]
    · by_cases h2 : i < 72
      · rw [if_pos (by omega), if_neg h1, if_pos h2, nums_list_get _ _ _ _ (by omega)]
      · rw [if_neg (by omega)]; simp only [if_neg h1, if_neg h2]
  rw [e] at this
  exact this
theorem ShaIn.len {W : World} {S : Nat} {A : List Nat} {f : Nat → Int} {n : Int} (h : ShaIn W S A f n) (n' : Int) : ShaIn (W.setCell ⟨S, 72, none⟩ (.int .u64 n')) S A f n' := by
  have := At.set h 72 (.int .u64 n')
  have e : (shaC A f n).setIfInBounds 72 (.int .u64 n') = shaC A f n' := by
    apply Array.ext_getElem?
    intro i
    rw [Array.getElem?_setIfInBounds, shaC_get, shaC_get, shaC_size]
    by_cases h1 : 72 = i
    · subst h1; simp
    · rw [if_neg h1]
      by_cases h2 : i < 8
      · rw [if_pos h2, if_pos h2]
      · by_cases h3 : i < 72
        · simp only [if_neg h2, if_pos h3]
        · simp only [if_neg h2, if_neg h3, if_neg (fun e : i = 72 => h1 e.symm)]
  rw [e] at this
  exact this
theorem ShaIn.cell72 {W : World} {S : Nat} {A : List Nat} {f : Nat → Int} {n : Int} (h : ShaIn W S A f n) : W.cell? ⟨S, 72, none⟩ = some (.int .u64 n) := by
  rw [At.cell h, shaC_get]; rfl
theorem ShaIn.cellR {W : World} {S : Nat} {A : List Nat} {f : Nat → Int} {n : Int} (h : ShaIn W S A f n) (j : Nat) (hj : j < 64) : W.cell? ⟨S, 8 + j, none⟩ = some (.int .u8 (f j)) := by
  rw [At.cell h, shaC_get, if_neg (by omega), if_pos (by omega), show 8 + j - 8 = j by omega]
theorem ShaIn.rangeA {W : World} {S : Nat} {A : List Nat} {f : Nat → Int} {n : Int} (h : ShaIn W S A f n) : W.rangeAt S 0 (nums .u32 8 (wf A)).toList := fun j v hv => by
  have hj : j < 8 := by have := (List.getElem?_eq_some_iff.1 hv).1; rwa [Array.length_toList, nums_size] at this
  rw [nums_list_get _ _ _ _ hj] at hv
  rw [Nat.zero_add, At.cell h, shaC_get, if_pos hj]; exact hv
theorem ShaIn.there {W : World} {S : Nat} {A : List Nat} {f : Nat → Int} {n : Int} (h : ShaIn W S A f n) (o m : Nat) (hm : o + m ≤ 73) : W.there S o m := fun j hj => by
  refine ⟨?_, At.free h _⟩
  rw [At.cell h, Array.getElem?_eq_getElem (by rw [shaC_size]; omega)]; rfl
/-- The added state is read. -/
theorem load_added (W : World) (S : Nat) (A : List Nat) (f : Nat → Int) (n : Int) (h : ShaIn W S A f n) : (Instr.loadAt 27 (.pointer (some ⟨S, 0, none⟩))).run Tryd.prog W = .ok (.agg (nums .u32 8 (wf A))) W := by
  have := run_loadAt_mid (P := Tryd.prog) W S 0 27 _ _ h.rangeA Tryd.underlying27 rfl (by rw [Array.length_toList]; exact size_state _)
  rw [Array.toArray_toList] at this
  exact this
theorem load_state_run (W : World) (g : Nat) (f : Nat → Int) (h : At 27 W g (nums .u32 8 f)) : (Instr.loadAt 27 (.pointer (some ⟨g, 0, none⟩))).run Tryd.prog W = .ok (.agg (nums .u32 8 f)) W := by
  simp only [Instr.loadAt, Instr.sureAddr, Sem.run_bind, Sem.run_pure, Result.andThen_ok, run_loadVar_row W g _ 27 _ _ _ h Tryd.underlying27 rfl (size_state f)]
theorem load_added_var (W : World) (S : Nat) (A : List Nat) (f : Nat → Int) (n : Int) (h : ShaIn W S A f n) : (loadVar 27 ⟨S, 0, none⟩).run Tryd.prog W = .ok (.agg (nums .u32 8 (wf A))) W := by
  have := run_loadVar_mid (P := Tryd.prog) W S 0 27 _ _ h.rangeA Tryd.underlying27 rfl (by rw [Array.length_toList]; exact size_state _)
  rw [Array.toArray_toList] at this
  exact this
theorem load_state_var (W : World) (g : Nat) (f : Nat → Int) (h : At 27 W g (nums .u32 8 f)) : (loadVar 27 ⟨g, 0, none⟩).run Tryd.prog W = .ok (.agg (nums .u32 8 f)) W :=
  run_loadVar_row W g _ 27 _ _ _ h Tryd.underlying27 rfl (size_state f)
theorem still_val {P : Program} {ops : Array Oper} {w : World} {Q : Act → Prop} {o : Oper} {rest : List Oper} {a : Act} {v : Value} (hg : o.guard = none) (hrun : (execOp a.eval o).run P w = .ok (.value v) w) (h : wpStill P ops w Q rest (a.put o.dst v)) : wpStill P ops w Q (o :: rest) a := by
  show if Region.wanted o (yielded ops a.tmps) then _ else _
  rw [if_pos (by simp [Region.wanted, hg])]
  unfold Oper.still
  rw [hrun, Oper.stillUpon_value]; exact h
theorem exec_load {T : TypeId} {o : Oper} {a : Act} {x : Operand} {w : World} {p : Addr} {v : Value} (ho : o.op = .load T x) (hx : a.eval x = .pointer (some p)) (h : (loadVar T p).run Tryd.prog w = .ok v w) : (execOp a.eval o).run Tryd.prog w = .ok (.value v) w := by
  unfold execOp
  simp only [ho, hx, Instr.loadAt, Instr.sureAddr, Sem.run_bind, Sem.run_pure, Result.andThen_ok, h]
theorem load_tab_var (W : World) (g : Nat) (f : Nat → Int) (h : Tab W g (nums .u32 8 f)) : (loadVar 27 ⟨g, 0, none⟩).run Tryd.prog W = .ok (.agg (nums .u32 8 f)) W := by
  obtain ⟨T, fr, h⟩ := h
  exact run_loadVar_row W g T 27 _ fr _ h Tryd.underlying27 rfl (size_state f)
theorem region_tail {P : Program} {id : Nat} {a : Act} {w : World} {Q : Exit → Act → World → Prop} {l : List Oper} (m : Nat) (hm : P.follows .mixedOrders = true) (hB : Region.lexTailB .any l.toArray m = true)
    (h : wpStill P l.toArray w.drew (fun a' => wpList P l.toArray Q (l.drop m) a' w.drew) (l.take m) a) : (Code.region id l.toArray true).wp P Q a w := wp_region_still_tail m hm hB h
set_option maxRecDepth 100000 in
set_option maxHeartbeats 1000000 in
theorem current_any (S : Nat) (A : List Nat) (f : Nat → Int) (n : Int) (hA : Words A) (w : World) (hT : Tabs w) (hS : ShaIn w S A f n) :
    Calls Tryd.prog 26 #[.pointer (some ⟨S, 0, none⟩)] w fun e w' => e = .returned (.agg (nums .u32 8 (wf (plus initial A)))) ∧ Below w.heap.size w w' := by
  have hz := (zero_of_info zero_state).1
  have l1 := load_tab_var (w.alloc (.cells (nums .u32 8 fun _ => 0) 27)).drew 1 (wf initial) (hT.alloc _).drew.2
  have l2 := load_added_var (w.alloc (.cells (nums .u32 8 fun _ => 0) 27)).drew S A f n (At.drew (At.alloc hS _))
  have hp := plus_any initial A initial_words hA (w.alloc (.cells (nums .u32 8 fun _ => 0) 27)).drew
  have HR := Lib.hid ((At.new 27 w (nums .u32 8 fun _ => 0)).drew)
  have HB := Lib.hid (((Below.refl _ w).alloc (Nat.le_refl _) (.cells (nums .u32 8 fun _ => 0) 27)).drew)
  have HP := Lib.hid hp
  clear hT hS hA hp
  go_enter Tryd.func26, Tryd.ntmps26
  go_wp2
  refine region_tail 5 (by kernel_rfl) (by kernel_rfl) ?_
  simp only [List.take_succ_cons, List.take_zero, List.drop_succ_cons, List.drop_zero]
  refine still_val rfl (exec_load rfl rfl l1) ?_
  have L2 := Lib.hid l2
  clear l2 l1
  still_step
  still_step
  still_step
  refine still_val rfl (exec_load rfl rfl L2.out) ?_
  refine wpStill_nil ?_
  clear L2
  generalize (w.alloc (.cells (nums .u32 8 fun _ => 0) 27)).drew = w2 at *
  go_wp2_with (first | (go_at_call 24; refine HP.out.mono ?_; rintro e w3 ⟨rfl, hB3⟩; have HR3 := Lib.hid (HR.out.below HR.out.lt hB3); have HB3 := Lib.hid hB3; clear hB3) | (refine store_state HR3.out rfl rfl rfl rfl ?_))
  exact bodyPost_ret (v := .agg (nums .u32 8 (wf (plus initial A)))) (results_state rfl _ _ w.heap.size _ rfl HR3.out.row) rfl ⟨rfl, below_row (HB.out.trans (HB3.out.mono HB.out.size)) (Nat.le_refl _) _⟩
end Go.Proofs.YthjjlkoddmljbaaDoor
