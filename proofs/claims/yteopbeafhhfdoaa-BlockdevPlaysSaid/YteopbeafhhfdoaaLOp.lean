/- A call of a list is read. -/
import Derived.Test.YteopbeafhhfdoaaLOps
import Derived.Test.YteopbeafhhfdoaaLAlive
set_option linter.unusedVariables false
set_option linter.unusedSimpArgs false
namespace Go.Proofs.Yteopbeafhhfdoaa
open Go.RowKit
theorem frame_of {N : Nat} {l : List Value} (h : l.length = N) : l = (List.range N).map (fun i => l.getD i undef) := by
  apply List.ext_getElem?
  intro i
  by_cases hi : i < N
  · rw [List.getElem?_map, List.getElem?_range hi, List.getElem?_eq_getElem (by omega)]
    simp [List.getD, show i < l.length by omega]
  · rw [List.getElem?_eq_none (by omega), List.getElem?_eq_none (by simp; omega)]
/-- Call k of the list, wherever nothing that came in has turned. -/
structure OpK (w : World) (b o k : Nat) (x : Opn) : Prop where
  n : ∀ W, Below w.heap.size w W → W.cell? ⟨b, o + k * 7 + 1, none⟩ = some (.int .i64 x.n)
  load : ∀ W, Below w.heap.size w W → (loadVar 36 ⟨b, o + k * 7, none⟩).run Try.prog W = .ok (.agg (opC x)) W
  K : ∀ W, Below w.heap.size w W → Bys8 w.heap.size W (.slice x.ka x.K.length x.kc) x.K
  is : OpnIs x
theorem OpsAt.op {w : World} {a : Option Addr} {len : Nat} {L : Nat → Opn} (h : OpsAt w.heap.size w a len L) {k : Nat} (hk : k < len) : ∃ b o, a = some ⟨b, o, none⟩ ∧ OpK w b o k (L k) := by
  obtain ⟨b, o, e, hb, ⟨h0, h1, h2, h3, h4, h5, h6⟩, hK, hO⟩ := h k hk
  have hx : ∀ W, Below w.heap.size w W → ∀ j, W.cell? ⟨b, j, none⟩ = w.cell? ⟨b, j, none⟩ := fun W hB j => hB.cell (p := ⟨b, j, none⟩) hb
  refine ⟨b, o, e, fun W hB => (hx W hB _).trans h1, fun W hB => ?_, fun W hB => hK.below hB, hO⟩
  refine run_loadVar_mid (P := Try.prog) W b (o + k * 7) 36 (opC (L k)).toList _ (fun j v hv => ?_) Try.underlying36 rfl (by
    show _ = some 7
    kernel_rfl)
  rw [hx W hB]
  match j, hv with
  | 0, hv => obtain rfl : Value.int .i64 (L k).kind = v := by simpa [opC] using hv
             exact h0
  | 1, hv => obtain rfl : Value.int .i64 (L k).n = v := by simpa [opC] using hv
             exact h1
  | 2, hv => obtain rfl : Value.int .u8 (L k).b = v := by simpa [opC] using hv
             exact h2
  | 3, hv => obtain rfl : Value.int .i64 (L k).len = v := by simpa [opC] using hv
             exact h3
  | 4, hv => obtain rfl : Value.slice (L k).ka (L k).K.length (L k).kc = v := by simpa [opC] using hv
             exact h4
  | 5, hv => obtain rfl : Value.int .i64 (L k).torn = v := by simpa [opC] using hv
             exact h5
  | 6, hv => obtain rfl : Value.int .i64 (L k).at_ = v := by simpa [opC] using hv
             exact h6
  | j + 7, hv => simp [opC] at hv
/-- What was written is a list of its bytes. -/
theorem row_bys {p : Pl} {W : World} {g : Nat} {x : Opn} (h : RowF p W g (bytesN x) (bytesF x)) : Bys8 W.heap.size W (.slice (some ⟨g, 0, none⟩) (bytesN x) (bytesN x)) (bytesL x) := h.bys (fun j _ => bytesF_in x j) _
end Go.Proofs.Yteopbeafhhfdoaa
