/- The region of the document's Parse that draws its order and makes memory. -/
import Derived.Test.YthlpigffjbhmoaaDoorRReadW
import Derived.Test.YthlpigffjbhmoaaDoorRRegL
import Derived.Test.YthlpigffjbhmoaaDoorEPars
set_option linter.unusedVariables false
set_option linter.unusedSimpArgs false
namespace Go.Proofs.YthlpigffjbhmoaaDoor
open Go.RowKit Go.Shelf
theorem OwnE.heap {base : Nat} {w : World} {v : Value} {xs : List Rw} (h : OwnE base w v xs) : ∀ k, v.ownBlock = some k → ∃ cs, w.heap[k]? = some (.cells cs 42 (0, 0)) := by
  intro k hk
  rcases h.2 with ⟨rfl, e⟩ | ⟨g, cap, cur, rfl, hg, hh, _⟩
  · simp [Value.ownBlock] at hk
  · simp [Value.ownBlock] at hk; subst hk; exact ⟨_, hh⟩
/-- Appending rows that lie somewhere, or none, to an empty row of the call's own, in a region that draws its order. -/
theorem wpR_src {w : World} {o : Oper} {a : Act} {K : Act → World → Prop} {Q : Exit → Act → World → Prop} (hgd : o.guard = none) (s x : Operand)
    (ho : o.op = .call { callee := .builtin .append, args := #[s, x], argTypes := #[22, 22] })
    (base g : Nat) (hs : a.eval s = .slice (some ⟨g, 0, none⟩) 0 0) (hown : OwnE base w (.slice (some ⟨g, 0, none⟩) 0 0) []) (ra : Option Addr) (rl rc : Nat) (xs : List Rw) (hx : a.eval x = .slice ra rl rc) (hl : xs.length = rl) {B : Nat} (hR : RwsAt B w ra xs)
    (hlen : rl ≤ 1000000) (hbase : base ≤ w.heap.size)
    (h : ∀ a' c' w', OwnE base w' (.slice a' rl c') xs → w.grownBy w' (some g) → K (a.put o.dst (.slice a' rl c')) w') :
    o.wp Tryd.prog a w K Q := by
  cases xs with
  | nil =>
    simp at hl
    subst hl
    obtain ⟨i, hi, _⟩ := partsE
    have hr := run_append_zero (w := w) (ty := o.type) (x := ra) (c := rc) (b := ⟨g, 0, none⟩) (n := 0) (cap := 0) Tryd.underlying22 hi (Nat.le_refl _)
    have hk := h (some ⟨g, 0, none⟩) 0 w hown ⟨rfl, rfl, rfl, Nat.le_refl _, fun _ _ _ => rfl⟩
    unfold Oper.wp
    simp [execOp, ho, resolve, invoke, builtin, hs, hx, hr, Result.andThen, Oper.upon]
    simpa using hk
  | cons r xs =>
    obtain ⟨b, o2, e, _⟩ := hR 0 r rfl
    subst e
    refine wpR_OwnE hgd s x ho base _ [] hs hown ⟨b, o2, none⟩ rl rc (r :: xs) hx hl hR.cells rl (by simp) hlen hbase ?_
    intro a' c' w' hO hG
    exact h a' c' w' hO hG
/-- What stands behind some of the operations that make memory. -/
structure RS (B0 : Nat) (W0 X : World) (l5 l8 : List Rw) (al : Rw) (s2 : Option Nat) (s5 : Option Value) (s7 : Option Nat) (s8 : Option Value) : Prop where
  below : Below B0 W0 X
  size : B0 ≤ X.heap.size
  h2 : ∀ g, s2 = some g → B0 ≤ g ∧ X.heap[g]? = some (.cells #[] 42 (0, 0))
  h5 : ∀ v, s5 = some v → OwnE B0 X v l5
  h7 : ∀ g, s7 = some g → B0 ≤ g ∧ X.heap[g]? = some (.cells #[.int .i64 al.f, .slice al.a al.n al.c] 42 (0, 0))
  h8 : ∀ v, s8 = some v → OwnE B0 X v l8
section
variable {B0 : Nat} {W0 X : World} {l5 l8 : List Rw} {al : Rw} {s2 : Option Nat} {s5 : Option Value} {s7 : Option Nat} {s8 : Option Value}
theorem RS.alloc (h : RS B0 W0 X l5 l8 al s2 s5 s7 s8) (o : Obj) : RS B0 W0 (X.alloc o) l5 l8 al s2 s5 s7 s8 :=
  ⟨h.below.trans ((Below.refl B0 X).alloc h.size o), by have := h.size; simp; omega, fun g e => ⟨(h.h2 g e).1, heap_old (h.h2 g e).2 _⟩, fun v e => (h.h5 v e).kept (fun k hk => Below.heap_alloc X o k ((h.h5 v e).row k hk).2),
    fun g e => ⟨(h.h7 g e).1, heap_old (h.h7 g e).2 _⟩, fun v e => (h.h8 v e).kept (fun k hk => Below.heap_alloc X o k ((h.h8 v e).row k hk).2)⟩
theorem RS.two (h : RS B0 W0 X l5 l8 al s2 s5 s7 s8) : RS B0 W0 (X.alloc (.cells #[] 42)) l5 l8 al (some X.heap.size) s5 s7 s8 :=
  { h.alloc (.cells #[] 42) with h2 := fun g e => by cases e; exact ⟨h.size, heap_alloc_new X _⟩ }
theorem RS.seven (h : RS B0 W0 X l5 l8 al s2 s5 s7 s8) : RS B0 W0 (X.alloc (.cells #[.int .i64 al.f, .slice al.a al.n al.c] 42)) l5 l8 al s2 s5 (some X.heap.size) s8 :=
  { h.alloc (.cells #[.int .i64 al.f, .slice al.a al.n al.c] 42) with h7 := fun g e => by cases e; exact ⟨h.size, heap_alloc_new X _⟩ }
theorem RS.own2 {g : Nat} (h : RS B0 W0 X l5 l8 al (some g) s5 s7 s8) : OwnE B0 X (.slice (some ⟨g, 0, none⟩) 0 0) [] := by
  obtain ⟨h1, h2⟩ := h.h2 g rfl
  exact ⟨by simp [valsE], .inr ⟨g, 0, #[], rfl, h1, h2, Nat.le_refl _, Nat.zero_le _, rfl, by simp [valsE]⟩⟩
theorem RS.cells7 {g : Nat} (h : RS B0 W0 X l5 l8 al s2 s5 (some g) s8) : ∀ j u, (valsE [al])[j]? = some u → X.cell? ((⟨g, 0, none⟩ : Addr).add j) = some u := by
  obtain ⟨_, h2⟩ := h.h7 g rfl
  exact one_cells (cell_of_row X g 0 _ _ _ h2) (cell_of_row X g 1 _ _ _ h2)
theorem RS.five {g : Nat} {X' : World} {v : Value} (h : RS B0 W0 X l5 l8 al (some g) none s7 none) (hG : X.grownBy X' (some g)) (hO : OwnE B0 X' v l5) : RS B0 W0 X' l5 l8 al none (some v) s7 none := by
  obtain ⟨h1, h2⟩ := h.h2 g rfl
  refine ⟨h.below.trans ((Below.refl B0 X).grown hG h.size (fun r e => by cases e; exact h1)), Nat.le_trans h.size hG.size, fun g e => (by cases e), fun v' e => (by cases e; exact hO), fun g' e => ⟨(h.h7 g' e).1, ?_⟩, fun v e => (by cases e)⟩
  have h3 := (h.h7 g' e).2
  exact (hG.block g' (Array.getElem?_eq_some_iff.1 h3).1 (fun q => by cases q; rw [h2] at h3; cases h3)).trans h3
theorem RS.last {X' : World} {v v' : Value} {l : List Rw} (h : RS B0 W0 X l5 l8 al s2 s5 s7 none) (hv : OwnE B0 X v l) (hG : X.grownBy X' v.ownBlock) (hO : OwnE B0 X' v' l8) : RS B0 W0 X' l5 l8 al none none none (some v') :=
  ⟨h.below.trans ((Below.refl B0 X).grown hG h.size (fun r e => (hv.row r e).1)), Nat.le_trans h.size hG.size, fun g e => (by cases e), fun v' e => (by cases e), fun g' e => (by cases e), fun v e => (by cases e; exact hO)⟩
variable {o : Oper} {a : Act} {K : Act → World → Prop} {Q : Exit → Act → World → Prop}
theorem RS.dotwo (h : RS B0 W0 X l5 l8 al s2 s5 s7 s8) (hrun : (execOp a.eval o).run Tryd.prog X = .ok (.value (.slice (some ⟨X.heap.size, 0, none⟩) 0 0)) (X.alloc (.cells #[] 42)))
    (hk : ∀ g X', RS B0 W0 X' l5 l8 al (some g) s5 s7 s8 → K (a.put o.dst (.slice (some ⟨g, 0, none⟩) 0 0)) X') : o.wp Tryd.prog a X K Q := wp_by_run hrun (hk _ _ h.two)
theorem RS.doseven (h : RS B0 W0 X l5 l8 al s2 s5 s7 s8) (hrun : (execOp a.eval o).run Tryd.prog X = .ok (.value (.slice (some ⟨X.heap.size, 0, none⟩) 1 1)) (X.alloc (.cells #[.int .i64 al.f, .slice al.a al.n al.c] 42)))
    (hk : ∀ g X', RS B0 W0 X' l5 l8 al s2 s5 (some g) s8 → K (a.put o.dst (.slice (some ⟨g, 0, none⟩) 1 1)) X') : o.wp Tryd.prog a X K Q := wp_by_run hrun (hk _ _ h.seven)
theorem RS.dofive {g : Nat} {B : Nat} (h : RS B0 W0 X l5 l8 al (some g) none s7 none) (hgd : o.guard = none) (s x : Operand)
    (ho : o.op = .call { callee := .builtin .append, args := #[s, x], argTypes := #[22, 22] }) (hs : a.eval s = .slice (some ⟨g, 0, none⟩) 0 0)
    (ra : Option Addr) (rl rc : Nat) (hx : a.eval x = .slice ra rl rc) (hl : l5.length = rl) (hR : RwsAt B X ra l5) (hlen : rl ≤ 1000000)
    (hk : ∀ a' c' X', RS B0 W0 X' l5 l8 al none (some (.slice a' rl c')) s7 none → K (a.put o.dst (.slice a' rl c')) X') : o.wp Tryd.prog a X K Q := by
  refine wpR_src hgd s x ho B0 g hs h.own2 ra rl rc l5 hx hl hR hlen h.size ?_
  intro a' c' w' hO hG
  exact hk a' c' w' (h.five hG hO)
theorem RS.doeight {g : Nat} {v : Value} (h : RS B0 W0 X l5 l8 al s2 (some v) (some g) none) (hgd : o.guard = none) (s x : Operand)
    (ho : o.op = .call { callee := .builtin .append, args := #[s, x], argTypes := #[22, 22] }) (hs : a.eval s = v) (hx : a.eval x = .slice (some ⟨g, 0, none⟩) 1 1) (h8 : l5 ++ [al] = l8)
    (N : Nat) (hN : l5.length + 1 = N) (hlen : N ≤ 1000000) (hk : ∀ a' c' X', RS B0 W0 X' l5 l8 al none none none (some (.slice a' N c')) → K (a.put o.dst (.slice a' N c')) X') : o.wp Tryd.prog a X K Q := by
  refine wpR_OwnE hgd s x ho B0 v l5 hs (h.h5 v rfl) ⟨g, 0, none⟩ 1 1 [al] hx rfl h.cells7 N hN hlen h.size ?_
  intro a' c' w' hO hG
  rw [h8] at hO
  exact hk a' c' w' (h.last (h.h5 v rfl) hG hO)
end
theorem cutR {P : Program} {c : Code} {Q : Exit → Act → World → Prop} {a : Act} {w : World} (R : Act → Exit → Act → World → Prop) (h1 : c.wp P (R a) a w) (h2 : ∀ e a' w', R a e a' w' → Q e a' w') : c.wp P Q a w := Code.wp_mono h2 h1
end Go.Proofs.YthlpigffjbhmoaaDoor
