/- A range over a function whose iterator writes to one box that lay ahead (strings.SplitSeq); a round may end by a return. -/
import Derived.Test.YtmeamdfmcpkofaaDoorBLoop
set_option linter.unusedVariables false
namespace Go.Proofs.YtmeamdfmcpkofaaDoor
open Go.RowKit
/-- What stays under new blocks, and under whatever is written to the blocks of G. -/
def SteadyG (G : Nat → Prop) (J : World → Prop) : Prop := ∀ X Y row, J X → X.grownBy Y row → (∀ r, row = some r → G r) → J Y
theorem SteadyG.alloc {G : Nat → Prop} {J : World → Prop} (h : SteadyG G J) {W : World} (hJ : J W) (o : Obj) : J (W.alloc o) := h W _ none hJ (World.grownBy_alloc W o none) (fun r e => by cases e)
theorem SteadyG.putObj {G : Nat → Prop} {J : World → Prop} (h : SteadyG G J) {W : World} (hJ : J W) {l : Nat} (o : Obj) (hl : G l) : J (W.putObj l o) := h W _ (some l) hJ (grownBy_putObj' W l o) (fun r e => by cases e; exact hl)
theorem SteadyG.and {G : Nat → Prop} {J K : World → Prop} (h : SteadyG G J) (k : SteadyG G K) : SteadyG G (fun W => J W ∧ K W) := fun X Y row hs hg hr => ⟨h X Y row hs.1 hg hr, k X Y row hs.2 hg hr⟩
theorem steadyG_pure (G : Nat → Prop) (p : Prop) : SteadyG G (fun _ => p) := fun _ _ _ h _ _ => h
theorem steadyG_block (G : Nat → Prop) (b : Nat) (o : Obj) (h : ¬ G b) : SteadyG G (fun W => W.heap[b]? = some o) := fun X Y row hs hg hr =>
  (hg.block b (Array.getElem?_eq_some_iff.1 hs).1 (fun e => h (hr b e.symm))).trans hs
theorem steadyG_below (G : Nat → Prop) (n : Nat) (w : World) (h : ∀ r, G r → n ≤ r) (hw : n ≤ w.heap.size) : SteadyG G (fun W => Below n w W) := fun X Y row hs hg hr =>
  hs.trans ⟨hg.os, hg.tape, hg.output, hg.size, fun k hk => hg.block k (by have := hs.size; omega) (fun e => by have := h k (hr k e.symm); omega)⟩
/-- An iterator that gives the list xs, and writes to nothing but the block Bs; the rounds write to S alone of what lay there. -/
def SeqBox {α : Type} (n : Nat) (P : Program) (g : Nat) (lb : Array Value) (enc : α → Array Value) (Bs : Nat) (S : Nat → Prop) (xs : List α) (w : World) : Prop :=
  ∀ (l : Nat) (J Jx : List α → World → Prop) (W : World), Below w.heap.size w W → (∀ pre, SteadyG (fun r => r = Bs) (J pre)) →
    (∀ pre x W1, pre ++ [x] <+: xs → W.heap.size ≤ W1.heap.size → J pre W1 → YieldAt Fence.wide (n - 1) P l (enc x) W1 fun e W' =>
      (e = .returned (.bool true) ∧ J (pre ++ [x]) W' ∧ Only W.heap.size S W1 W') ∨ (e = .returned (.bool false) ∧ Jx (pre ++ [x]) W')) →
    J [] W → CallsIn Fence.wide n P g (#[.func (.yield l) #[] #[]] ++ lb) W fun e W' => (∃ v, e = .returned v) ∧ (J xs W' ∨ ∃ pre, pre <+: xs ∧ Jx pre W')
/-- How a round is left: on to the next one, or by a return. -/
def boxPost (B : Nat) (S : Nat → Prop) (I Ix : World → Prop) (W : World) : Exit → Act → World → Prop
  | .normal, _, W' => Only B S W W' ∧ I W'
  | .ret, _, W' => Only B S W W' ∧ Ix W'
  | _, _, _ => False
theorem wpIn_rangeFunc_box {α : Type} {n : Nat} {P : Program} {g : Operand} {ps : Array Tmp} {assign body : Code} {Q : Exit → Act → World → Prop} {a : Act} {w : World}
    {gf : Nat} {lb : Array Value} (hg : a.eval g = .func (.func gf) #[] lb) (eg : ∀ args w, (callFunc gf args).run P w = .ok (.enter gf args) w)
    (xs : List α) (enc : α → Array Value) (Bs : Nat) (hBs : Bs < w.heap.size) (S : Nat → Prop) (hseq : SeqBox (n - 1) P gf lb enc Bs S xs w) (hps : ∀ x, (enc x).size = ps.size) (hS : ∀ j, S j → j < w.heap.size)
    (I Ix : List α → World → Prop) (hI : ∀ pre, SteadyG (fun r => r = Bs ∨ w.heap.size ≤ r ∧ r ≤ w.heap.size + 1) (I pre)) (hIx : ∀ pre, SteadyG (fun r => r = Bs ∨ w.heap.size ≤ r ∧ r ≤ w.heap.size + 1) (Ix pre)) (h0 : I [] w)
    (Ax : List α → α → Act → World → Prop) (hAx : ∀ pre x a₁, SteadyG (fun r => r = Bs ∨ w.heap.size ≤ r ∧ r ≤ w.heap.size + 1) (Ax pre x a₁))
    (hassign : ∀ (l : Nat) (pre : List α) (x : α) (W : World) (K : Act → World → Prop), w.heap.size + 2 ≤ W.heap.size → pre ++ [x] <+: xs → I pre W → (∀ a₁ W', Only (w.heap.size + 2) S W W' → I pre W' → Ax pre x a₁ W' → K a₁ W') →
      assign.wpIn (Fence.wide.inRound l) (n - 1 - 1) P (Exit.then K (fun _ _ _ => False)) { tmps := (ps.zip (enc x)).foldl (fun t (p, v) => t.setIfInBounds p v) a.tmps, defers := [] } W)
    (hbody : ∀ (l : Nat) (pre : List α) (x : α) (a₁ : Act) (W : World), w.heap.size + 2 ≤ W.heap.size → pre ++ [x] <+: xs → I pre W → Ax pre x a₁ W → body.wpIn (Fence.wide.inRound l) (n - 1 - 1) P (boxPost (w.heap.size + 2) S (I (pre ++ [x])) (Ix (pre ++ [x])) W) a₁ W)
    (hdone : ∀ (D : Nat) (W : World), w.heap.size ≤ D → I xs W → W.heap[D]? = some (.deferred (some [])) → Q .normal { a with defers := { target := .collected D, args := #[] } :: a.defers } W)
    (hstop : ∀ (D : Nat) (pre : List α) (W : World), w.heap.size ≤ D → pre <+: xs → Ix pre W → W.heap[D]? = some (.deferred (some [])) → Code.ret.wpIn Fence.wide n P Q { a with defers := { target := .collected D, args := #[] } :: a.defers } W) :
    (Code.rangeFunc g ps assign body).wpIn Fence.wide n P Q a w := by
  refine wpIn_rangeFunc ?_
  intro fn hfn
  rw [show Fence.wide.round = none from rfl]
  obtain ⟨rec, hrec⟩ : ∃ rec : LoopState → Option Code → Loop, rec = fun st pe => { state := st, pending := pe, fn, tmps := a.tmps, params := ps, assign, body, defers := w.heap.size } := ⟨_, rfl⟩
  obtain ⟨W1, hW1⟩ : ∃ W1, (w.alloc (.deferred (some []))).alloc (.loop (rec .ready none)) = W1 := ⟨_, rfl⟩
  have hs1 : W1.heap.size = w.heap.size + 2 := by rw [← hW1]; simp
  have hL1 : W1.heap[w.heap.size + 1]? = some (.loop (rec .ready none)) := by
    rw [← hW1]; have := World.alloc_heap_new (w.alloc (.deferred (some []))) (.loop (rec .ready none)); rwa [World.size_alloc] at this
  have hK1 : W1.heap[w.heap.size]? = some (.deferred (some [])) := by
    rw [← hW1]; exact (Below.heap_alloc _ _ _ (by simp)).trans (World.alloc_heap_new w _)
  have hb1 : Below w.heap.size w W1 := by
    rw [← hW1]; exact ((Below.refl _ w).alloc (Nat.le_refl _) _).alloc (by simp) _
  have hI1 : I [] W1 := by rw [← hW1]; exact (hI []).alloc ((hI []).alloc h0 _) _
  have hnS : ∀ j, w.heap.size ≤ j → ¬ S j := fun j hj hs => by have := hS j hs; omega
  refine ⟨w.heap.size + 1, [{ target := .collected w.heap.size, args := #[] }], W1, { target := .fn (.func gf) lb, args := #[.func (.yield (w.heap.size + 1)) #[] #[]] }, W1, gf,
    #[.func (.yield (w.heap.size + 1)) #[] #[]] ++ lb, W1, ?_, ?_, ?_, ?_, fun h => (by cases h), ?_⟩
  · rw [← hW1, hrec]; exact run_enterLoop_outer _ _ _ _ _
  · simp only [resolve, hg]
    simp [go_sem]
  · intro f' hf'; exact trivial
  · simp [invoke, go_sem, eg]
  · refine (hseq (w.heap.size + 1)
      (fun pre W => I pre W ∧ W.heap[w.heap.size + 1]? = some (.loop (rec .ready none)) ∧ W.heap[w.heap.size]? = some (.deferred (some [])))
      (fun pre W => Ix pre W ∧ W.heap[w.heap.size + 1]? = some (.loop (rec .done (some .ret))) ∧ W.heap[w.heap.size]? = some (.deferred (some [])))
      W1 hb1 ?_ ?_ ⟨hI1, hL1, hK1⟩).mono ?_
    · intro pre X Y row hs hg' hr
      exact ⟨hI pre X Y row hs.1 hg' (fun r e => .inl (hr r e)),
        (hg'.block _ (Array.getElem?_eq_some_iff.1 hs.2.1).1 (fun e => by have := hr _ e.symm; omega)).trans hs.2.1,
        (hg'.block _ (Array.getElem?_eq_some_iff.1 hs.2.2).1 (fun e => by have := hr _ e.symm; omega)).trans hs.2.2⟩
    · rintro pre x W hpre hsz ⟨hi, hl, hk⟩
      rw [hs1] at hsz ⊢
      have hy := run_yield (P := P) (args := enc x) hl (by rw [hrec]; exact hps x)
      rw [hrec] at hy
      refine ⟨fn, _, assign, body, hy, roundIn_of_wpIn hfn (hassign _ pre x W _ (by omega) hpre hi fun a₁ X hf hx ha => ?_)⟩
      have hlX := (hf.block _ (by omega) (hnS _ (by omega))).trans hl
      have hkX := (hf.block _ (by omega) (hnS _ (by omega))).trans hk
      have hltX : w.heap.size + 1 < X.heap.size := (Array.getElem?_eq_some_iff.1 hlX).1
      refine ⟨_, run_beginRound hlX (by rw [hrec]), ?_⟩
      have hl2 : (X.putObj (w.heap.size + 1) (.loop { rec .ready none with state := .busy })).heap[w.heap.size + 1]? = some (.loop { rec .ready none with state := .busy }) := World.putObj_heap_same hltX
      have hk2 : (X.putObj (w.heap.size + 1) (.loop { rec .ready none with state := .busy })).heap[w.heap.size]? = some (.deferred (some [])) := (World.putObj_heap_other (by omega)).trans hkX
      have hput : ∀ (Y : World) (o : Obj) (k : Nat), k < w.heap.size + 2 → k ≠ w.heap.size + 1 → (Y.putObj (w.heap.size + 1) o).heap[k]? = Y.heap[k]? := fun Y o k _ hk => World.putObj_heap_other hk
      have hsX := hf.size
      refine wpIn_mono (hbody _ pre x a₁ _ (by simp; omega) hpre ((hI pre).putObj hx _ (by omega)) ((hAx pre x a₁).putObj ha _ (by omega))) ?_
      rintro e a3 W3 hp
      cases e with
      | normal =>
        obtain ⟨hk3, hi3⟩ := hp
        have hl3 := (hk3.block _ (by omega) (hnS _ (by omega))).trans hl2
        have hd3 := (hk3.block _ (by omega) (hnS _ (by omega))).trans hk2
        have hr := run_endRound (P := P) none hl3
        have hlt3 := (Array.getElem?_eq_some_iff.1 hl3).1
        refine ⟨_, _, hr, .inl ⟨rfl, ⟨(hI _).putObj hi3 _ (by omega), ?_, ?_⟩, ?_⟩⟩
        · rw [World.putObj_heap_same hlt3, hrec]; rfl
        · exact (World.putObj_heap_other (by omega)).trans hd3
        · have hs3 := hk3.size
          refine ⟨by simp at hs3 ⊢; omega, fun k hk hs => ?_⟩
          by_cases hk1 : k = w.heap.size + 1
          · rw [hk1, World.putObj_heap_same hlt3, hl, hrec]; rfl
          · rw [hput _ _ k (by omega) hk1, hk3.block k (by omega) hs, hput _ _ k (by omega) hk1]
            exact hf.block k (by omega) hs
      | ret =>
        obtain ⟨hk3, hi3⟩ := hp
        have hl3 := (hk3.block _ (by omega) (hnS _ (by omega))).trans hl2
        have hd3 := (hk3.block _ (by omega) (hnS _ (by omega))).trans hk2
        have hr := run_endRound (P := P) (some .ret) hl3
        have hlt3 := (Array.getElem?_eq_some_iff.1 hl3).1
        refine ⟨_, _, hr, .inr ⟨rfl, (hIx _).putObj hi3 _ (by omega), ?_, ?_⟩⟩
        · rw [World.putObj_heap_same hlt3, hrec]; rfl
        · exact (World.putObj_heap_other (by omega)).trans hd3
      | exit i => exact hp.elim
      | goto t => exact hp.elim
      | panic ch => exact hp.elim
      | outgrown => exact hp.elim
    · rintro e W2 ⟨⟨v, rfl⟩, (⟨hi, hl, hk⟩ | ⟨pre, hp, hi, hl, hk⟩)⟩
      · exact ⟨none, _, by have := run_endLoop (P := P) hl (by rw [hrec]; simp); rw [hrec] at this; exact this, hdone _ _ (Nat.le_refl _) ((hI _).putObj hi _ (by omega)) ((World.putObj_heap_other (by omega)).trans hk)⟩
      · exact ⟨some .ret, _, by have := run_endLoop (P := P) hl (by rw [hrec]; simp); rw [hrec] at this; exact this, hstop _ pre _ (Nat.le_refl _) hp ((hIx _).putObj hi _ (by omega)) ((World.putObj_heap_other (by omega)).trans hk)⟩
end Go.Proofs.YtmeamdfmcpkofaaDoor
