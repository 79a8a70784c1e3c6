/- What the rows' condition gives the walks: the tables of kilowatt/entry and those of the library. -/
import Derived.Test.YtmeamdfmcpkofaaDoorRows
import Derived.Test.YtmeamdfmcpkofaaDoorTie
import Derived.Test.YtmeamdfmcpkofaaDoorEFmt
import Derived.Test.YtmeamdfmcpkofaaDoorEOpen
import Derived.LaidMore
import Derived.Stop.Joined
import Derived.Stop.LaidErr
import Derived.HandedShaped
import Derived.Lay
import Derived.OpenShut
import Derived.ChangeOld
import Derived.ShutString
import Derived.Below
import Derived.WalkKit
import Derived.ProofKit
import Derived.MakeChecks
import Derived.Lib.LaidTab
set_option linter.unusedVariables false
namespace Go.Proofs.YtmeamdfmcpkofaaDoor
open Go.ChangeShapes Go.WideShapes Go.ChangeAt Go.RowKit
theorem heap_of_var {W : World} {nm : String} {g : Nat} (hg : Tryd.prog.globalNamed nm = some g) {cs : Array Value} (h : W.var? Tryd.prog nm = some cs) : ∃ T fr, W.heap[g]? = some (.cells cs T fr) := by
  simp only [World.var?, hg, Option.bind_some] at h
  split at h
  · rename_i c t fr hb
    cases h
    exact ⟨t, fr, hb⟩
  · cases h
theorem gWords : Tryd.prog.globalNamed "kilowatt/entry.words" = some 0 := by kernel_rfl
theorem gLay : Tryd.prog.globalNamed "kilowatt/entry.layouts" = some 1 := by kernel_rfl
theorem gSizes : Tryd.prog.globalNamed "kilowatt/entry.sizes" = some 2 := by kernel_rfl
theorem gLimits : Tryd.prog.globalNamed "kilowatt/entry.limits" = some 3 := by kernel_rfl
theorem tyWords : (Tryd.prog.globals[0]?).map (·.type) = some 87 := by kernel_rfl
theorem tyLay : (Tryd.prog.globals[1]?).map (·.type) = some 92 := by kernel_rfl
theorem tySizes : (Tryd.prog.globals[2]?).map (·.type) = some 93 := by kernel_rfl
theorem tyLimits : (Tryd.prog.globals[3]?).map (·.type) = some 60 := by kernel_rfl
theorem tyPow : (Tryd.prog.globals[5]?).map (·.type) = some 124 := by kernel_rfl
theorem arr_at {H : Type} {enc : TypeId × Value → H} {P : Program} {w : World} {base : Nat} {sp : Nat → Bool} {held : Bool} {fuel : Nat} {t e : TypeId} {n : Nat} {cs : List Value} {Ds : List (DataW H)} {p : List MemPlace}
    (ht : P.underlying t = some (.array n e)) (hc : P.cellsOf e = 1) (h : DataW.trod enc P w base sp held fuel t cs = some (.agg Ds, p)) :
    cs.length = P.cellsOf t ∧ ∀ k D, k < n → Ds[k]? = some D → ∃ m q, DataW.trod enc P w base sp held m e ((cs.drop k).take 1) = some (D, q) := by
  obtain ⟨xs, m, _, ex, hl, hx, hel⟩ := DataW.trod_array ht h
  refine ⟨hl, fun k D hk hD => ?_⟩
  have e1 : Ds = xs.map (·.1) := by
    have := congrArg Prod.fst ex
    simpa using this
  have h1 := hel k hk
  rw [hc, Nat.mul_one] at h1
  rw [e1, List.getElem?_map] at hD
  cases hy : xs[k]? with
  | none => rw [hy] at hD; cases hD
  | some y =>
    rw [hy] at hD h1
    simp only [Option.map_some, Option.some.injEq] at hD
    subst hD
    exact ⟨m, y.2, h1⟩
theorem lt_of_cell {w : World} {a : Addr} {v : Value} (h : w.cell? a = some v) : a.block < w.heap.size := by
  rcases Nat.lt_or_ge a.block w.heap.size with h1 | h1
  · exact h1
  · have e : w.heap[a.block]? = none := Array.getElem?_eq_none h1
    unfold World.cell? at h
    simp [e] at h
theorem lits_inj {H : Type} {k : IntKind} : ∀ {a b : List Int}, (lits k a : List (DataW H)) = lits k b → a = b
  | [], [], _ => rfl
  | [], _ :: _, h => by simp [lits] at h
  | _ :: _, [], h => by simp [lits] at h
  | x :: a, y :: b, h => by
    simp only [lits, List.map_cons, List.cons.injEq, DataW.lit.injEq, Lit.int.injEq, true_and] at h
    have e := lits_inj (H := H) (k := k) (a := a) (b := b) h.2
    rw [h.1, e]
/-- The data of the tables, as lists. -/
def wordD {H : Type} (k : Nat) : DataW H := .lit (.string (wordS k).data.toList)
def layD {H : Type} (k : Nat) : DataW H := if k = 0 then .nil else .slice (lits .i64 ((layN k).map fun (j : Nat) => (j : Int))) []
theorem words_d {H : Type} : (Rows.laid_kilowatt_entry_words : DataW H) = .agg ((List.range 6).map wordD) := by
  show DataW.agg _ = DataW.agg _
  rfl
theorem lays_d {H : Type} : (Rows.laid_kilowatt_entry_layouts : DataW H) = .agg ((List.range 6).map layD) := by
  show DataW.agg _ = DataW.agg _
  rfl
theorem sizes_d {H : Type} : (Rows.laid_kilowatt_entry_sizes : DataW H) = Lib.tabData .i64 ((List.range 10).map fun i => (sizeN i : Int)) := by
  show DataW.agg _ = DataW.agg _
  rfl
theorem limits_d {H : Type} : (Rows.laid_kilowatt_entry_limits : DataW H) = Lib.tabData .u64 ((List.range 9).map mostN) := by
  show DataW.agg _ = DataW.agg _
  rfl
theorem pow_d {H : Type} : (Rows.laid_internal_strconv_uint64pow10 : DataW H) = Lib.tabData .u64 Lib.pow10Tab := by
  show DataW.agg _ = DataW.agg _
  rfl
theorem range_get (n k : Nat) (h : k < n) {α : Type} (f : Nat → α) : ((List.range n).map f)[k]? = some (f k) := by simp [h]
theorem words_of {H : Type} {enc : TypeId × Value → H} {w : World} {base : Nat} {sp : Nat → Bool} {held : Bool} {fuel : Nat} {cs : Array Value} {p : List MemPlace}
    (h : DataW.trod enc Tryd.prog w base sp held fuel 87 cs.toList = some (.agg ((List.range 6).map wordD), p)) : cs = wordsA := by
  obtain ⟨hl, hk⟩ := arr_at Tryd.underlying87 (by kernel_rfl) h
  have hl6 : cs.size = 6 := by simpa using hl.trans (show Tryd.prog.cellsOf 87 = 6 by kernel_rfl)
  apply Array.ext_getElem?
  intro i
  by_cases hi : i < 6
  · obtain ⟨m, q, hd⟩ := hk i _ hi (range_get 6 i hi wordD)
    obtain ⟨s, e1, e2, _⟩ := DataW.trod_string Tryd.underlying9 hd
    have e3 := one_of e1
    rw [wordsA_get i hi]
    have e4 : (wordS i).data.toList = s.data.toList := by simpa [wordD] using congrArg Prod.fst e2
    have e5 : wordS i = s := ByteArray.ext (Array.toList_inj.1 e4)
    rw [e5]
    simpa using e3
  · rw [Array.getElem?_eq_none (by omega), Array.getElem?_eq_none (by simp [wordsA]; omega)]
theorem lays_of {H : Type} {enc : TypeId × Value → H} {w : World} {base : Nat} {sp : Nat → Bool} {held : Bool} {fuel : Nat} {cs : Array Value} {p : List MemPlace}
    (h : DataW.trod enc Tryd.prog w base sp held fuel 92 cs.toList = some (.agg ((List.range 6).map layD), p)) :
    ∀ k, k < 6 → ∃ a cap, cs[k]? = some (.slice a (layN k).length cap) ∧ (layN k).length ≤ cap ∧ ∀ j, j < (layN k).length → ∃ x : Addr, a = some x ∧ x.block < w.heap.size ∧ w.cell? (x.add j) = some (.int .i64 ((layN k).getD j 0 : Nat)) := by
  obtain ⟨hl, hk⟩ := arr_at Tryd.underlying92 (by kernel_rfl) h
  intro k hk6
  obtain ⟨m, q, hd⟩ := hk k _ hk6 (range_get 6 k hk6 layD)
  rcases open_ints Tryd.underlying91 Tryd.underlying3 (by kernel_rfl) hd with ⟨hcs, hx⟩ | ⟨x, l, c, zs, hcs, _, hlc, _, hz, hx, hcell, _⟩
  · have e1 : layD (H := H) k = .nil := congrArg Prod.fst hx
    have e0 : k = 0 := by
      unfold layD at e1
      split at e1
      · assumption
      · cases e1
    subst e0
    exact ⟨none, 0, by simpa [layN] using one_of hcs, by simp [layN], fun j hj => by simp [layN] at hj⟩
  · have e1 : layD (H := H) k = .slice (lits .i64 (zs.take l)) (lits .i64 (zs.drop l)) := congrArg Prod.fst hx
    have e0 : ¬ k = 0 := by
      intro e0
      rw [e0] at e1
      simp [layD] at e1
    simp only [layD, if_neg e0, DataW.slice.injEq] at e1
    have e2 := lits_inj e1.1
    have hzl : l ≤ zs.length := by rw [hz]; split <;> omega
    have e3 : (layN k).length = l := by
      have := congrArg List.length e2
      simpa [Nat.min_eq_left hzl] using this
    refine ⟨some x, c, by rw [e3]; simpa using one_of hcs, by omega, fun j hj => ⟨x, rfl, ?_, ?_⟩⟩
    · have := lt_of_cell (hcell 0 (by omega))
      simpa [Addr.add] using (show (x.add 0).block < _ from this)
    · rw [hcell j (by omega)]
      have e4 : zs.getD j 0 = ((layN k).getD j 0 : Nat) := by
        have := congrArg (fun L => L.getD j 0) e2
        simp only [List.getD_eq_getElem?_getD, List.getElem?_map, List.getElem?_take] at this ⊢
        rw [if_pos (by omega)] at this
        rw [← this]
        cases (layN k)[j]? <;> simp
      rw [e4]
theorem tabE_of {W : World} {c1 c2 c3 c4 : Array Value} {f1 f2 f3 f4 : Nat} {p1 p2 p3 p4 : List MemPlace} {H : Type} {enc : TypeId × Value → H} {base : Nat} {sp : Nat → Bool} {held : Bool}
    (v1 : W.var? Tryd.prog "kilowatt/entry.words" = some c1) (d1 : DataW.trod enc Tryd.prog W base sp held f1 87 c1.toList = some (Rows.laid_kilowatt_entry_words, p1))
    (v2 : W.var? Tryd.prog "kilowatt/entry.layouts" = some c2) (d2 : DataW.trod enc Tryd.prog W base sp held f2 92 c2.toList = some (Rows.laid_kilowatt_entry_layouts, p2))
    (v3 : W.var? Tryd.prog "kilowatt/entry.sizes" = some c3) (d3 : DataW.trod enc Tryd.prog W base sp held f3 93 c3.toList = some (Rows.laid_kilowatt_entry_sizes, p3))
    (v4 : W.var? Tryd.prog "kilowatt/entry.limits" = some c4) (d4 : DataW.trod enc Tryd.prog W base sp held f4 60 c4.toList = some (Rows.laid_kilowatt_entry_limits, p4)) : TabE W := by
  rw [words_d] at d1
  rw [lays_d] at d2
  rw [sizes_d] at d3
  rw [limits_d] at d4
  obtain ⟨T1, r1, h1⟩ := heap_of_var gWords v1
  obtain ⟨T2, r2, h2⟩ := heap_of_var gLay v2
  obtain ⟨T3, r3, h3⟩ := heap_of_var gSizes v3
  obtain ⟨T4, r4, h4⟩ := heap_of_var gLimits v4
  refine ⟨⟨T1, r1, by rw [h1, words_of d1]⟩, ⟨T3, r3, ?_⟩, ⟨T4, r4, ?_⟩, c2, T2, r2, h2, lays_of d2⟩
  · have e := Lib.cells_of_tab Tryd.underlying93 Tryd.underlying3 (by kernel_rfl) (by kernel_rfl) d3
    rw [h3]
    have e' : c3 = sizesA := by
      rw [← Array.toArray_toList (xs := c3), e]
      rfl
    rw [e']
  · have e := Lib.cells_of_tab Tryd.underlying60 Tryd.underlying23 (by kernel_rfl) (by kernel_rfl) d4
    rw [h4]
    have e' : c4 = limitsA := by
      rw [← Array.toArray_toList (xs := c4), e]
      rfl
    rw [e']
theorem pow_of {W : World} {c1 : Array Value} {f1 : Nat} {p1 : List MemPlace} {H : Type} {enc : TypeId × Value → H} {base : Nat} {sp : Nat → Bool} {held : Bool}
    (v1 : W.var? Tryd.prog "internal/strconv.uint64pow10" = some c1) (d1 : DataW.trod enc Tryd.prog W base sp held f1 124 c1.toList = some (Rows.laid_internal_strconv_uint64pow10, p1)) : Pow W := by
  rw [pow_d] at d1
  obtain ⟨T1, r1, h1⟩ := heap_of_var gPow v1
  have e := Lib.cells_of_tab Tryd.underlying124 Tryd.underlying23 (by kernel_rfl) (by kernel_rfl) d1
  exact ⟨T1, r1, by rw [h1, ← e, Array.toArray_toList]⟩
def laidP : List (String × DataW Unit) := [("math/bits.deBruijn32tab", Rows.laid_math_bits_deBruijn32tab), ("math/bits.deBruijn64tab", Rows.laid_math_bits_deBruijn64tab), ("internal/strconv.uint64pow10", Rows.laid_internal_strconv_uint64pow10), ("kilowatt/entry.words", Rows.laid_kilowatt_entry_words), ("kilowatt/entry.layouts", Rows.laid_kilowatt_entry_layouts), ("kilowatt/entry.sizes", Rows.laid_kilowatt_entry_sizes), ("kilowatt/entry.limits", Rows.laid_kilowatt_entry_limits)]
structure TabsP (W : World) : Prop where
  tab : TabE W
  pow : Pow W
theorem TabsP.next {w w' : World} (h : TabsP w) (hb : Below w.heap.size w w') : TabsP w' := ⟨h.tab.next hb, h.pow.next hb (Nat.le_refl _)⟩
theorem of_laidP {W : World} (h : laidMetH Tryd.prog laidP W) : TabsP W := by
  rw [MakeChecks.laidMetH_plain _ _ _ (by kernel_rfl)] at h
  have h2 := h.tail.tail
  have h3 := h2.tail
  have h4 := h3.tail
  have h5 := h4.tail
  have h6 := h5.tail
  obtain ⟨ps, ⟨g0, t0, cs0, f0, p0, q0, hg0, ht0, hv0, hd0, _⟩, _⟩ := h2
  obtain ⟨ps, ⟨g1, t1, cs1, f1, p1, q1, hg1, ht1, hv1, hd1, _⟩, _⟩ := h3
  obtain ⟨ps, ⟨g2, t2, cs2, f2, p2, q2, hg2, ht2, hv2, hd2, _⟩, _⟩ := h4
  obtain ⟨ps, ⟨g3, t3, cs3, f3, p3, q3, hg3, ht3, hv3, hd3, _⟩, _⟩ := h5
  obtain ⟨ps, ⟨g4, t4, cs4, f4, p4, q4, hg4, ht4, hv4, hd4, _⟩, _⟩ := h6
  obtain rfl := Option.some.inj (gPow.symm.trans hg0)
  obtain rfl := Option.some.inj (gWords.symm.trans hg1)
  obtain rfl := Option.some.inj (gLay.symm.trans hg2)
  obtain rfl := Option.some.inj (gSizes.symm.trans hg3)
  obtain rfl := Option.some.inj (gLimits.symm.trans hg4)
  obtain rfl := Option.some.inj (tyPow.symm.trans ht0)
  obtain rfl := Option.some.inj (tyWords.symm.trans ht1)
  obtain rfl := Option.some.inj (tyLay.symm.trans ht2)
  obtain rfl := Option.some.inj (tySizes.symm.trans ht3)
  obtain rfl := Option.some.inj (tyLimits.symm.trans ht4)
  exact ⟨tabE_of hv1 hd1 hv2 hd2 hv3 hd3 hv4 hd4, pow_of hv0 hd0⟩
set_option maxRecDepth 100000 in
theorem door_metP (os : Os) (args : Array Value) : laidMetH Tryd.prog laidP ((World.laidAll Tryd.prog os laidP).forCall (fun _ _ => 0) ⟨#[], args, []⟩).memory := by
  rw [MakeChecks.laidMetH_plain _ _ _ (by kernel_rfl)]
  exact laidMet_laidAll _ (by kernel_rfl) (by kernel_rfl)
/-- The wrap of a row with a condition of its own, the world's shape kept. -/
theorem returns_and_shaped {H : Type} {enc : TypeId × Value → H} {a : Assume} {C : Checked} {os : Os} {f : FuncId} {fn : Func} {s : ChangeSpec} {conds : List PathCond} {apart fresh handsOn again : Bool} {X : World → Array Value → Prop}
    (hX : ∀ (w w' : World) (args : Array Value), w.heap = w'.heap → X w args → X w' args)
    (own : ownKnob C.prog.godebug = none) (started : os.Started) (noInit : C.prog.inits.idxOf? f = none) (hfn : C.prog.funcs[f]? = some fn)
    (witness : ∃ (w : World) (tape : Tape) (i : Input), w.os = os ∧ (w.forCall tape i).Shaped C.prog ∧ i.vars = [] ∧ Input.okWide C.prog (w.forCall tape i) .any w.heap.size f i ∧
      ((s.pre enc C.prog fn conds apart (w.forCall tape i).memory i.args ∧ X (w.forCall tape i).memory i.args) ∧ sizedMet enc C.prog fn (OpenSpec.ofChange s) apart (w.forCall tape i).memory i.args) ∧ a.holds C.prog (lone (Frame.enter C.prog f i.args .normal) [] (w.forCall tape i)))
    (contract : ∀ (W : World) (base : Nat) (args : Array Value) (ds gs : List (DataW H)) (before : List MemPlace),
      (∀ (j : Nat) t v, fn.params[j]? = some t → args[j]? = some v → Value.okWide C.prog W .any base t v) →
      DataW.Whole enc C.prog fn.params.toList s.vars apart W args.toList ds gs before → X W args → W.ShapedOpen C.prog →
      Calls C.prog f args W fun e W' => ∃ v, e = .returned v ∧ s.post enc C.prog fn apart fresh handsOn again W args v W') :
    ReturnsInHanded a C os f .any (fun w args => (s.pre enc C.prog fn conds apart w args ∧ X w args) ∧ sizedMet enc C.prog fn (OpenSpec.ofChange s) apart w args) (s.post enc C.prog fn apart fresh handsOn again) := by
  refine returnsInHanded_of_calls own started noInit witness ?_
  intro w tape i _ hsh _ hok hpre hholds
  obtain ⟨_, _, _, fn', hfn', _, _, _, _, hval⟩ := hok
  have e : fn' = fn := Option.some.inj (hfn'.symm.trans hfn)
  subst e
  obtain ⟨⟨⟨ds, gs, before, hw, hc⟩, hx⟩, hz⟩ := hpre
  have hw' := DataW.Whole.of_heap (w' := w.forCall tape i) (by rfl) hw
  refine (contract (w.forCall tape i) w.heap.size i.args ds gs before hval hw' (hX _ _ _ (by rfl) hx) hsh).mono fun e W' ⟨v, he, hp⟩ => ?_
  subst he
  exact ChangeSpec.post_blind hp
end Go.Proofs.YtmeamdfmcpkofaaDoor
