/- The tables of package entry, and the calls that read one of them. -/
import Derived.Test.YtmeamdfmcpkofaaDoorProg
import Derived.Test.YtmeamdfmcpkofaaDoorEMath
import Derived.Test.YtmeamdfmcpkofaaDoorS8
import Derived.Test.YtmeamdfmcpkofaaDoorTRow
import Derived.Test.YtmeamdfmcpkofaaDoorFLift
import Derived.Lib.Hide
import Derived.WalkKit
set_option linter.unusedVariables false
set_option linter.unusedSimpArgs false
namespace Go.Proofs.YtmeamdfmcpkofaaDoor
open Go.RowKit Go.Shelf
/-- The words of the kinds. -/
def wordS : Nat → ByteArray
  | 1 => ⟨#[105, 110, 116, 101, 114, 118, 97, 108]⟩
  | 2 => ⟨#[115, 117, 115, 112, 101, 99, 116]⟩
  | 3 => ⟨#[114, 101, 112, 108, 97, 99, 101]⟩
  | 4 => ⟨#[99, 111, 114, 114, 101, 99, 116]⟩
  | 5 => ⟨#[115, 101, 97, 108]⟩
  | _ => ⟨#[]⟩
def wordsA : Array Value := ((List.range 6).map fun k => Value.string (wordS k)).toArray
def sizesA : Array Value := nums .i64 10 (fun i => (sizeN i : Int))
def limitsA : Array Value := nums .u64 9 mostN
/-- The rows of fields lie there. -/
def LayAt (w : World) : Prop := ∃ S T fr, w.heap[1]? = some (.cells S T fr) ∧ ∀ k, k < 6 → ∃ a cap, S[k]? = some (.slice a (layN k).length cap) ∧ (layN k).length ≤ cap ∧
  ∀ j, j < (layN k).length → ∃ x : Addr, a = some x ∧ x.block < w.heap.size ∧ w.cell? (x.add j) = some (.int .i64 ((layN k).getD j 0 : Nat))
structure TabE (w : World) : Prop where
  words : ∃ T fr, w.heap[0]? = some (.cells wordsA T fr)
  sizes : ∃ T fr, w.heap[2]? = some (.cells sizesA T fr)
  limits : ∃ T fr, w.heap[3]? = some (.cells limitsA T fr)
  lays : LayAt w
theorem TabE.of {B : Nat} {w w' : World} (h : TabE w) (hb : Below B w w') (hB : w.heap.size ≤ B) : TabE w' := by
  have hk : ∀ {g : Nat} {o : Obj}, w.heap[g]? = some o → w'.heap[g]? = some o := fun {g o} e => (hb.block g (Nat.lt_of_lt_of_le (Array.getElem?_eq_some_iff.1 e).1 hB)).trans e
  obtain ⟨⟨T0, f0, h0⟩, ⟨T1, f1, h1⟩, ⟨T2, f2, h2⟩, S, T, fr, h3, h4⟩ := h
  refine ⟨⟨T0, f0, hk h0⟩, ⟨T1, f1, hk h1⟩, ⟨T2, f2, hk h2⟩, S, T, fr, hk h3, fun k hk6 => ?_⟩
  obtain ⟨a, cap, e1, e2, e3⟩ := h4 k hk6
  refine ⟨a, cap, e1, e2, fun j hj => ?_⟩
  obtain ⟨x, rfl, hx, hc⟩ := e3 j hj
  exact ⟨x, rfl, Nat.lt_of_lt_of_le hx hb.size, (hb.cell (p := x.add j) (by unfold Addr.add; split <;> (show x.block < B; omega))).trans hc⟩
theorem TabE.next {w w' : World} (h : TabE w) (hb : Below w.heap.size w w') : TabE w' := h.of hb (Nat.le_refl _)
theorem wordsA_get (k : Nat) (h : k < 6) : wordsA[k]? = some (.string (wordS k)) := by simp [wordsA, h]
theorem TabE.word {w : World} (h : TabE w) (k : Nat) (hk : k < 6) : w.cell? ⟨0, k, none⟩ = some (.string (wordS k)) := by
  obtain ⟨T, fr, e⟩ := h.words
  rw [cell_of_row w _ k _ _ _ e]; exact wordsA_get k hk
theorem TabE.size {w : World} (h : TabE w) (f : Nat) (hf : f < 10) : w.cell? ⟨2, f, none⟩ = some (.int .i64 (sizeN f : Int)) := by
  obtain ⟨T, fr, e⟩ := h.sizes
  rw [cell_of_row w _ f _ _ _ e]; exact nums_get _ _ _ _ hf
theorem TabE.limit {w : World} (h : TabE w) (f : Nat) (hf : f < 9) : w.cell? ⟨3, f, none⟩ = some (.int .u64 (mostN f)) := by
  obtain ⟨T, fr, e⟩ := h.limits
  rw [cell_of_row w _ f _ _ _ e]; exact nums_get _ _ _ _ hf
theorem TabE.lay {w : World} (h : TabE w) (k : Nat) (hk : k < 6) : ∃ a cap, w.cell? ⟨1, k, none⟩ = some (.slice a (layN k).length cap) ∧ (layN k).length ≤ cap ∧
    ∀ j, j < (layN k).length → ∃ x : Addr, a = some x ∧ x.block < w.heap.size ∧ w.cell? (x.add j) = some (.int .i64 ((layN k).getD j 0 : Nat)) := by
  obtain ⟨S, T, fr, e, h4⟩ := h.lays
  obtain ⟨a, cap, e1, e2, e3⟩ := h4 k hk
  exact ⟨a, cap, by rw [cell_of_row w _ k _ _ _ e]; exact e1, e2, e3⟩
/-- Name: the word of a kind. -/
def nameS (n : Int) : ByteArray := if 0 ≤ n ∧ n < 6 then wordS n.toNat else ⟨#[]⟩
set_option maxHeartbeats 1000000 in
theorem name_any (n : Int) (h : R64 n) (w : World) (hT : TabE w) : Calls Tryd.prog 20 #[.int .i64 n] w fun e w' => e = .returned (.string (nameS n)) ∧ w = w' := by
  unfold R64 at h
  obtain ⟨h1, h2⟩ := h
  rcases Int.lt_or_le n 0 with h0 | h0
  · have e : nameS n = ⟨#[]⟩ := by unfold nameS; rw [if_neg (by omega)]
    rw [e]
    clear e hT
    go_enter Tryd.func20, Tryd.ntmps20
    go_wp2
    go_ret
    exact ⟨rfl, rfl⟩
  · rcases Int.lt_or_le n 6 with h6 | h6
    · obtain ⟨k, rfl⟩ : ∃ k : Nat, n = (k : Int) := ⟨n.toNat, by omega⟩
      have e : nameS (k : Int) = wordS k := by unfold nameS; rw [if_pos (by omega)]; rfl
      have hc := hT.word k (by omega)
      rw [e]
      have hk : k < 6 := by omega
      clear e hT
      have hk0 : (0 : Int) ≤ k := by omega
      go_enter Tryd.func20, Tryd.ntmps20
      go_wp2
      go_ret
      exact ⟨rfl, rfl⟩
    · have e : nameS n = ⟨#[]⟩ := by unfold nameS; rw [if_neg (by omega)]
      rw [e]
      clear e hT
      go_enter Tryd.func20, Tryd.ntmps20
      go_wp2
      go_ret
      exact ⟨rfl, rfl⟩
end Go.Proofs.YtmeamdfmcpkofaaDoor
