/- A list of lists of bytes as an argument, and how much it holds. -/
import Derived.Test.YtpcbolmidnoaiaaRows
import Derived.Test.YtpcbolmidnoaiaaFSls
import Derived.OpenShut
import Derived.ChangeArms
import Derived.WideShapes
import Derived.ChangeOld
import Derived.Deep.Slices
import Derived.Deep.MidRow
set_option linter.unusedVariables false
namespace Go.Proofs.Ytpcbolmidnoaiaa
open Go.ChangeShapes Go.WideShapes Go.RowKit Go.Deep
theorem bulk_one {H : Type} (d : DataW H) : 1 ≤ Rows.uptoBulk d := by
  cases d with
  | lit l => cases l <;> simp [Rows.uptoBulk]
  | _ => simp [Rows.uptoBulk]
theorem bulk_len {H : Type} : ∀ l : List (DataW H), l.length ≤ Rows.uptoBulkAll l
  | [] => Nat.zero_le _
  | x :: r => by have := bulk_one x; have := bulk_len r; simp only [Rows.uptoBulkAll, List.length_cons]; omega
theorem bulk_size {H : Type} (R : Nat → List Int) (D : Nat → DataW H) : ∀ l : List Nat, (∀ i ∈ l, (R i).length + 1 ≤ Rows.uptoBulk (D i)) → sizeN (l.map R) ≤ 6 * Rows.uptoBulkAll (l.map D)
  | [], _ => Nat.zero_le _
  | i :: l, h => by
    have h1 := h i List.mem_cons_self
    have h2 := bulk_size R D l (fun j hj => h j (List.mem_cons_of_mem _ hj))
    rw [List.map_cons, List.map_cons, sizeN_cons]
    simp only [Rows.uptoBulkAll]
    omega
section
variable {H : Type} {enc : TypeId × Value → H} {W : World} {base : Nat} {held : Bool} {fuel : Nat}
theorem op_bytes {c : Value} {x : DataW H × List MemPlace} (h : DataW.trod enc Try.prog W base (fun _ => true) held fuel 23 [c] = some x) :
    ∃ (a : Option Addr) (cap : Nat) (K : List Int), c = .slice a K.length cap ∧ K.length ≤ cap ∧ Bys8 W.heap.size W (.slice a K.length cap) K ∧ K.length + 1 ≤ Rows.uptoBulk x.1 := by
  rcases open_ints Try.underlying23 Try.underlying5 (by kernel_rfl) h with ⟨hcs, _⟩ | ⟨y, l', c', zs, hcs, _, hl', hm', hzl, hx', hcell, hwz⟩
  · exact ⟨none, 0, [], by simpa using hcs, Nat.le_refl _, bys8_nil _ _ _ _, bulk_one _⟩
  · have hzl' : zs.length = c' := by simpa using hzl
    obtain ⟨xs, hxl, hB⟩ := bys8_of_row (show IsRow .u8 W (some y) l' c' zs from .inr ⟨y, rfl, hl', hm', hzl', hcell, hwz⟩)
    subst hxl
    refine ⟨some y, c', xs, by simpa using hcs, hl', hB, ?_⟩
    have e : x.1 = .slice (lits .u8 (zs.take xs.length)) (lits .u8 (zs.drop xs.length)) := congrArg Prod.fst hx'
    rw [e]
    have h1 := bulk_len (lits (H := H) .u8 (zs.take xs.length))
    have h2 : (lits (H := H) .u8 (zs.take xs.length)).length = xs.length := by simp [lits]; omega
    simp only [Rows.uptoBulk]
    omega
theorem open_bsl {c : Value} {x : DataW H × List MemPlace} (h : DataW.trod enc Try.prog W base (fun _ => true) held fuel 22 [c] = some x) :
    ∃ (a : Option Addr) (cap : Nat) (ls : List (List Int)), c = .slice a ls.length cap ∧ ls.length ≤ cap ∧ BssAt W.heap.size W a ls ∧ sizeN ls ≤ 6 * Rows.uptoBulk x.1 := by
  rcases Go.Deep.open_slice Try.underlying22 h with ⟨hc, _⟩ | ⟨a, len, cap, m, n, D, Pl, hc, _, hl, hm, hmm, hxd, hx⟩
  · obtain rfl : c = .slice none 0 0 := by simpa using hc
    exact ⟨none, 0, [], rfl, Nat.le_refl _, BssAt.nil, Nat.zero_le _⟩
  · obtain rfl : c = .slice (some a) len cap := by simpa using hc
    have hk : Try.prog.cellsOf 23 = 1 := by kernel_rfl
    rw [hk] at hx
    have hlm : len ≤ m := by rw [hmm]; split <;> omega
    have each : ∀ i : Nat, ∃ r : Option Addr × Nat × List Int, i < len → (∃ b o, (some a : Option Addr) = some ⟨b, o, none⟩ ∧ b < W.heap.size ∧ W.cell? ⟨b, o + i, none⟩ = some (.slice r.1 r.2.2.length r.2.1)) ∧ r.2.2.length ≤ r.2.1 ∧ Bys8 W.heap.size W (.slice r.1 r.2.2.length r.2.1) r.2.2 ∧ r.2.2.length + 1 ≤ Rows.uptoBulk (D i) := by
      intro i
      by_cases hi : i < len
      · obtain ⟨cs, h1, h2⟩ := hx i (by omega)
        obtain ⟨_, hlen, hcell⟩ := World.cells?_some h1
        match cs, hlen with
        | [v], _ =>
          obtain ⟨a', c', K, rfl, k1, k2, k3⟩ := op_bytes h2
          obtain ⟨b, o, spot⟩ := a
          obtain ⟨cs0, g1, g2⟩ := hx 0 (by omega)
          obtain ⟨_, hlen0, hcell0⟩ := World.cells?_some g1
          match cs0, hlen0 with
          | [v0], _ =>
            have c0 := hcell0 0 (by omega)
            have hspot : spot = none := by
              have := World.cell?_spot c0
              simpa [Addr.add] using this
            subst hspot
            simp only [Addr.add_mid] at hcell
            have q := hcell 0 (by omega)
            exact ⟨⟨a', c', K⟩, fun _ => ⟨⟨b, o, rfl, World.block_lt_of_cell? W _ q, by simpa using q⟩, k1, k2, k3⟩⟩
      · exact ⟨⟨none, 0, []⟩, fun h => absurd h hi⟩
    obtain ⟨R, hR⟩ := Classical.axiomOfChoice each
    refine ⟨some a, cap, (List.range len).map (fun i => (R i).2.2), by simp, by simpa using hl, fun i v hv => ?_, ?_⟩
    · obtain ⟨h, e⟩ := List.getElem?_eq_some_iff.1 hv
      simp at h e
      subst e
      obtain ⟨⟨b, o, e1, e2, e3⟩, e4, e5, _⟩ := hR i h
      exact ⟨b, o, (R i).1, (R i).2.1, e1, e2, e3, e4, e5⟩
    · have hb := bulk_size (fun i => (R i).2.2) D (List.range len) (fun i hi => (hR i (List.mem_range.1 hi)).2.2.2)
      have e : x.1 = .slice ((List.range len).map D) ((List.range (m - len)).map fun j => D (len + j)) := congrArg Prod.fst hxd
      rw [e]
      simp only [Rows.uptoBulk]
      omega
set_option maxRecDepth 100000 in
/-- An argument that is a list of lists of bytes. -/
theorem open_bss {base2 : Nat} {r : Reach} {v : Value} {d : DataW H} {p : List MemPlace} (hv : Value.okWide Try.prog W r base 22 v) (h : DataW.Trod enc Try.prog W base2 (fun _ => true) held 22 v d p) :
    ∃ (a : Option Addr) (cap : Nat) (ls : List (List Int)), v = .slice a ls.length cap ∧ ls.length ≤ cap ∧ BssAt W.heap.size W a ls ∧ sizeN ls ≤ 6 * Rows.uptoBulk d := by
  obtain ⟨a, len, cap, rfl⟩ := okWide_slice Try.underlying22 hv
  obtain ⟨fuel, hf⟩ := h
  exact open_bsl (show DataW.trod enc Try.prog W base2 (fun _ => true) held fuel 22 [.slice a len cap] = some (d, p) by simpa [Value.cells] using hf)
end
end Go.Proofs.Ytpcbolmidnoaiaa
