/- The calls of ShaPlays as they come in. -/
import Derived.Test.YtkhhejkemkldgaaDoorPGreat
import Derived.Test.YtkhhejkemkldgaaDoorSLaid
import Derived.OpenShut
import Derived.ChangeArms
import Derived.WideShapes
import Derived.ChangeOld
import Derived.Deep.SlicePairs
import Derived.SizedLaws
set_option linter.unusedVariables false
namespace Go.Proofs.YtkhhejkemkldgaaDoor
open Go.ChangeShapes Go.WideShapes Go.RowKit Go.Deep
theorem mem_weightsAll {H : Type} {P : Program} {e : TypeId} : ∀ {l : List (DataW H)} {d : DataW H}, d ∈ l → ∀ n ∈ d.weights P e, n ∈ DataW.weightsAll P e l
  | d0 :: l, d, hd, n, hn => by
    rw [DataW.weightsAll, List.mem_append]
    rcases List.mem_cons.1 hd with rfl | h
    · exact .inl hn
    · exact .inr (mem_weightsAll h n hn)
theorem ops_of {H : Type} {enc : TypeId × Value → H} {W : World} {base : Nat} {held : Bool} {fuel : Nat} {a : Option Addr} {len cap : Nat} {d : DataW H} {p : List MemPlace}
    (hf : DataW.trod enc Tryd.prog W base (fun _ => true) held fuel 22 (Value.slice a len cap).cells.toList = some (d, p)) (hsz : ∀ n ∈ d.weights Tryd.prog 22, n ≤ reachBytes) :
    ∃ K A c X, OpsAt W.heap.size W a len K A c X := by
  obtain ⟨f0, f1, he, o0, o1, c0, c1, t0, t1⟩ : ∃ f0 f1, Tryd.prog.underlying 35 = some (.struct #[f0, f1]) ∧ f0.offset = 0 ∧ f1.offset = 1 ∧ Tryd.prog.cellsOf f0.type = 1 ∧ Tryd.prog.cellsOf f1.type = 1 ∧ f0.type = 3 ∧ f1.type = 33 := ⟨_, _, Tryd.underlying35, rfl, rfl, by kernel_rfl, by kernel_rfl, rfl, rfl⟩
  have none_ : ∃ K A c X, OpsAt W.heap.size W a 0 K A c X := ⟨fun _ => 0, fun _ => none, fun _ => 0, fun _ => [], fun i hi => absurd hi (Nat.not_lt_zero _)⟩
  rcases open_slice_pairs Tryd.underlying22 he (by kernel_rfl) o0 o1 c0 c1 hf with ⟨hcs, hx⟩ | ⟨x, l, cc, m, n, V0, V1, D0, D1, P0, P1, hcs, hb, hl, hm, hmm, hx, hi⟩
  · simp [Value.cells] at hcs
    obtain ⟨rfl, rfl, rfl⟩ := hcs
    exact none_
  · simp [Value.cells] at hcs
    obtain ⟨rfl, rfl, rfl⟩ := hcs
    have hlm : len ≤ m := by rw [hmm]; simpa using hl
    by_cases h0 : len = 0
    · subst h0; exact none_
    obtain ⟨b, off, spot⟩ := x
    have hspot : spot = none := by
      have := World.cell?_spot (hi 0 (by omega)).1
      simpa [Addr.add] using this
    subst hspot
    have hd : d = .slice ((List.range len).map fun i => .agg [D0 i, D1 i]) ((List.range (m - len)).map fun j => .agg [D0 (len + j), D1 (len + j)]) := congrArg Prod.fst hx
    have each : ∀ i : Nat, ∃ q : Int × Option Addr × Nat × List Int, i < len → W.cell? ⟨b, off + i * 2, none⟩ = some (.int .i64 q.1) ∧ W.cell? ⟨b, off + i * 2 + 1, none⟩ = some (.slice q.2.1 q.2.2.2.length q.2.2.1) ∧ Bys8 W.heap.size W (.slice q.2.1 q.2.2.2.length q.2.2.1) q.2.2.2 ∧ q.2.2.2.length ≤ q.2.2.1 ∧ q.2.2.2.length ≤ 140737488351232 := by
      intro i
      by_cases hil : i < len
      · obtain ⟨e0, e1, r0, r1⟩ := hi i (by omega)
        rw [Addr.add_mid] at e0 e1
        rw [t0] at r0
        rw [t1] at r1
        obtain ⟨z, hz, _, _⟩ := DataW.trod_int Tryd.underlying3 r0
        have hz' : V0 i = .int .i64 z := by simpa using hz
        rw [hz'] at e0
        rcases open_ints Tryd.underlying33 Tryd.underlying5 (by kernel_rfl) r1 with ⟨hcs, _⟩ | ⟨y, l', c', zs, hcs, _, hl', hm', hzl, hx', hcell, hwz⟩
        · have hv : V1 i = .slice none 0 0 := by simpa using hcs
          rw [hv] at e1
          exact ⟨(z, none, 0, []), fun _ => ⟨e0, e1, bys8_nil _ _ _ _, Nat.le_refl _, Nat.zero_le _⟩⟩
        · have hv : V1 i = .slice (some y) l' c' := by simpa using hcs
          rw [hv] at e1
          have hzl' : zs.length = c' := by simpa using hzl
          obtain ⟨xs, hxl, hB⟩ := bys8_of_row (show IsRow .u8 W (some y) l' c' zs from .inr ⟨y, rfl, hl', hm', hzl', hcell, hwz⟩)
          subst hxl
          refine ⟨(z, some y, c', xs), fun _ => ⟨e0, e1, hB, hl', ?_⟩⟩
          have hd1 : D1 i = .slice (lits .u8 (zs.take xs.length)) (lits .u8 (zs.drop xs.length)) := congrArg Prod.fst hx'
          have hw1 : c' * 1 ∈ (D1 i).weights Tryd.prog 33 := by
            rw [hd1]
            simp only [DataW.weights, Tryd.underlying33]
            refine List.mem_cons.2 (.inl ?_)
            rw [show Tryd.prog.bytesOf 5 = 1 by kernel_rfl]
            simp [lits]
            omega
          have hw2 : c' * 1 ∈ (DataW.agg [D0 i, D1 i] : DataW H).weights Tryd.prog 35 := by
            simp only [DataW.weights, he]
            exact DataW.weights_mem_each (j := 1) (t := 33) (by simp [t1]) rfl _ hw1
          have hw3 : c' * 1 ∈ d.weights Tryd.prog 22 := by
            rw [hd]
            simp only [DataW.weights, Tryd.underlying22]
            refine List.mem_cons.2 (.inr (List.mem_append.2 (.inl (mem_weightsAll ?_ _ hw2))))
            exact List.mem_map.2 ⟨i, List.mem_range.2 hil, rfl⟩
          have := hsz _ hw3
          unfold reachBytes at this
          show xs.length ≤ 140737488351232
          omega
      · exact ⟨(0, none, 0, []), fun h => absurd h hil⟩
    obtain ⟨F, hF⟩ := Classical.axiomOfChoice each
    exact ⟨fun i => (F i).1, fun i => (F i).2.1, fun i => (F i).2.2.1, fun i => (F i).2.2.2, fun i hil => ⟨b, off, rfl, World.block_lt_of_cell? W _ (hF i hil).1, hF i hil⟩⟩
end Go.Proofs.YtkhhejkemkldgaaDoor
