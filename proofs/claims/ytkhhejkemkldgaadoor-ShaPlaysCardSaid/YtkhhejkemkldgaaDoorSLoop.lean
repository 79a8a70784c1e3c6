/- A range over a function whose rounds go on m times, and leave by a break in the one behind: a law for iterators that never end by themselves. -/
import Derived.RangeFuncNested
import Derived.RangeFuncBound
import Derived.RangeFuncCalls
import Derived.RangeFuncLeaves
import Derived.RangeFuncBox
import Derived.Shelf.Abstract
import Derived.Below
set_option linter.unusedVariables false
namespace Go.Proofs.YtkhhejkemkldgaaDoor
open Go.RowKit
/-- All blocks of cells but S are as they were. -/
structure KeepsC (S : Nat) (W W' : World) : Prop where
  size : W.heap.size ≤ W'.heap.size
  same : ∀ (j : Nat) (o : Obj), j ≠ S → W.heap[j]? = some o → o.isCells = true → W'.heap[j]? = some o
theorem KeepsC.refl (S : Nat) (W : World) : KeepsC S W W := ⟨Nat.le_refl _, fun _ _ _ h _ => h⟩
theorem KeepsC.trans {S : Nat} {X Y Z : World} (h : KeepsC S X Y) (k : KeepsC S Y Z) : KeepsC S X Z := ⟨Nat.le_trans h.size k.size, fun j o hj ho hc => k.same j o hj (h.same j o hj ho hc) hc⟩
theorem KeepsC.putObj (S : Nat) {W : World} {l : Nat} {o o' : Obj} (hl : W.heap[l]? = some o) (hc : o.isCells = false) : KeepsC S W (W.putObj l o') :=
  ⟨by simp, fun j p _ hj hp => (World.putObj_heap_other (fun e => by subst e; rw [hl] at hj; cases hj; rw [hc] at hp; cases hp)).trans hj⟩
theorem KeepsC.grown {S : Nat} {W W' : World} (h : W.grownBy W' (some S)) : KeepsC S W W' :=
  ⟨h.size, fun j o hj ho _ => (h.block j (Array.getElem?_eq_some_iff.1 ho).1 (fun e => hj (by injection e))).trans ho⟩
theorem KeepsC.grownNone {S : Nat} {W W' : World} (h : W.grownBy W' none) : KeepsC S W W' :=
  ⟨h.size, fun j o hj ho _ => (h.block j (Array.getElem?_eq_some_iff.1 ho).1 (fun e => by cases e)).trans ho⟩
/-- What stays under new blocks, and under writes to blocks of cells from B on. -/
def Stays (B : Nat) (J : World → Prop) : Prop := ∀ X Y row, J X → X.grownBy Y row → (∀ r, row = some r → B ≤ r ∧ ∃ o : Obj, X.heap[r]? = some o ∧ o.isCells = true) → J Y
theorem Stays.drew {B : Nat} {J : World → Prop} (h : Stays B J) {W : World} (hJ : J W) : J W.drew := h W W.drew none hJ ⟨rfl, rfl, rfl, Nat.le_refl _, fun _ _ _ => rfl⟩ (fun _ e => by cases e)
/-- An iterator that is asked for m elements, and at the next one is told 'no more'. -/
def SeqGoes (n : Nat) (P : Program) (g : Nat) (lb : Array Value) (m S : Nat) (enc : Nat → Array Value) (w : World) : Prop :=
  ∀ (l : Nat) (J : Nat → World → Prop) (Jx : World → Prop) (W : World), Below w.heap.size w W → (∀ k, Stays w.heap.size (J k)) → Stays w.heap.size Jx →
    (∀ k W1, k < m → J k W1 → YieldAt Fence.wide (n - 1) P l (enc k) W1 fun e W' => e = .returned (.bool true) ∧ J (k + 1) W' ∧ KeepsC S W1 W') →
    (∀ W1, J m W1 → YieldAt Fence.wide (n - 1) P l (enc m) W1 fun e W' => e = .returned (.bool false) ∧ Jx W') →
    J 0 W → CallsIn Fence.wide n P g (#[.func (.yield l) #[] #[]] ++ lb) W fun e W' => (∃ v, e = .returned v) ∧ Jx W'
/-- How a round is left: on to the next one, or by the break. -/
def goesPost (B S id : Nat) (I : World → Prop) (Ix : World → Prop) (W : World) : Exit → Act → World → Prop
  | .normal, _, W' => KeepsFrom B W W' ∧ KeepsC S W W' ∧ I W'
  | .exit i, _, W' => i = id ∧ KeepsFrom B W W' ∧ Ix W'
  | _, _, _ => False
theorem below_stay {B : Nat} {I : World → Prop} (hI : ∀ X Y, I X → Below B X Y → I Y) {X Y : World} {row : Option Nat} (hB : B ≤ X.heap.size) (h : I X) (hg : X.grownBy Y row) (hr : ∀ r, row = some r → B ≤ r) : I Y :=
  hI X Y h ⟨hg.os, hg.tape, hg.output, hg.size, fun k hk => hg.block k (Nat.lt_of_lt_of_le hk hB) (fun e => by have := hr k e.symm; omega)⟩
theorem kept_obj {X Y : World} {row : Option Nat} {j : Nat} {o : Obj} (hj : X.heap[j]? = some o) (hc : o.isCells = false) (hg : X.grownBy Y row) (hr : ∀ r, row = some r → ∃ o : Obj, X.heap[r]? = some o ∧ o.isCells = true) : Y.heap[j]? = some o :=
  (hg.block j (Array.getElem?_eq_some_iff.1 hj).1 (fun e => by
    obtain ⟨p, hp, hpc⟩ := hr j e.symm
    rw [hj] at hp; cases hp; rw [hc] at hpc; cases hpc)).trans hj
theorem wpIn_rangeFunc_goes {n : Nat} {P : Program} {g : Operand} {ps : Array Tmp} {assign body : Code} {Q : Exit → Act → World → Prop} {a : Act} {w : World}
    {gf : Nat} {lb : Array Value} (hg : a.eval g = .func (.func gf) #[] lb) (eg : ∀ args w, (callFunc gf args).run P w = .ok (.enter gf args) w)
    (m S id : Nat) (enc : Nat → Array Value) (hseq : SeqGoes (n - 1) P gf lb m S enc w) (hps : ∀ k, (enc k).size = ps.size)
    (I : Nat → World → Prop) (Ix : World → Prop) (hI : ∀ k X Y, I k X → Below w.heap.size X Y → I k Y) (hIx : ∀ X Y, Ix X → Below w.heap.size X Y → Ix Y) (h0 : I 0 w)
    (Ax : Nat → Act → World → Prop) (hAx : ∀ k a₁ W l o o', Ax k a₁ W → W.heap[l]? = some o → o.isCells = false → Ax k a₁ (W.putObj l o'))
    (hassign : ∀ (l k : Nat) (W : World) (K : Act → World → Prop), w.heap.size ≤ W.heap.size → k ≤ m → I k W → (∀ a₁ W', KeepsFrom w.heap.size W W' → KeepsC S W W' → I k W' → Ax k a₁ W' → K a₁ W') →
      assign.wpIn (Fence.wide.inRound l) (n - 1 - 1) P (Exit.then K (fun _ _ _ => False)) { tmps := (ps.zip (enc k)).foldl (fun t (p, v) => t.setIfInBounds p v) a.tmps, defers := [] } W)
    (hgo : ∀ (l k : Nat) (a₁ : Act) (W : World), w.heap.size ≤ W.heap.size → k < m → I k W → Ax k a₁ W → body.wpIn (Fence.wide.inRound l) (n - 1 - 1) P (goesPost w.heap.size S id (I (k + 1)) (fun _ => False) W) a₁ W)
    (hend : ∀ (l : Nat) (a₁ : Act) (W : World), w.heap.size ≤ W.heap.size → I m W → Ax m a₁ W → body.wpIn (Fence.wide.inRound l) (n - 1 - 1) P (goesPost w.heap.size S id (fun _ => False) Ix W) a₁ W)
    (hstop : ∀ (D : Nat) (W : World), w.heap.size ≤ D → Ix W → W.heap[D]? = some (.deferred (some [])) → (Code.exit id).wpIn Fence.wide n P Q { a with defers := { target := .collected D, args := #[] } :: a.defers } W) :
    (Code.rangeFunc g ps assign body).wpIn Fence.wide n P Q a w := by
  refine wpIn_rangeFunc ?_
  intro fn hfn
  rw [show Fence.wide.round = none from rfl]
  obtain ⟨rec, hrec⟩ : ∃ rec : LoopState → Option Code → Loop, rec = fun st pe => { state := st, pending := pe, fn, tmps := a.tmps, params := ps, assign, body, defers := w.heap.size } := ⟨_, rfl⟩
  obtain ⟨W1, hW1⟩ : ∃ W1, (w.alloc (.deferred (some []))).alloc (.loop (rec .ready none)) = W1 := ⟨_, rfl⟩
  have hL1 : W1.heap[w.heap.size + 1]? = some (.loop (rec .ready none)) := by
    rw [← hW1]; have := World.alloc_heap_new (w.alloc (.deferred (some []))) (.loop (rec .ready none)); rwa [World.size_alloc] at this
  have hK1 : W1.heap[w.heap.size]? = some (.deferred (some [])) := by
    rw [← hW1]; exact (Below.heap_alloc _ _ _ (by simp)).trans (World.alloc_heap_new w _)
  have hb1 : Below w.heap.size w W1 := by
    rw [← hW1]; exact ((Below.refl _ w).alloc (Nat.le_refl _) _).alloc (by simp) _
  have hput : ∀ (k : Nat) {W : World} (o' : Obj) , I k W → I k (W.putObj (w.heap.size + 1) o') := fun k W o' h =>
    hI k _ _ h ⟨rfl, rfl, rfl, by simp, fun j hj => World.putObj_heap_other (by omega)⟩
  have hputx : ∀ {W : World} (o' : Obj) , Ix W → Ix (W.putObj (w.heap.size + 1) o') := fun {W} o' h =>
    hIx _ _ h ⟨rfl, rfl, rfl, by simp, fun j hj => World.putObj_heap_other (by omega)⟩
  refine ⟨w.heap.size + 1, [{ target := .collected w.heap.size, args := #[] }], W1, { target := .fn (.func gf) lb, args := #[.func (.yield (w.heap.size + 1)) #[] #[]] }, W1, gf,
    #[.func (.yield (w.heap.size + 1)) #[] #[]] ++ lb, W1, ?_, ?_, ?_, ?_, fun h => (by cases h), ?_⟩
  · rw [← hW1, hrec]; exact run_enterLoop_outer _ _ _ _ _
  · simp only [resolve, hg]
    simp [go_sem]
  · intro f' hf'; exact trivial
  · simp [invoke, go_sem, eg]
  · have round : ∀ (k : Nat) (W : World) (Rg Rs : World → Prop), k ≤ m → w.heap.size + 1 < W.heap.size → I k W → W.heap[w.heap.size + 1]? = some (.loop (rec .ready none)) → W.heap[w.heap.size]? = some (.deferred (some [])) →
        (∀ l a₁ X, w.heap.size ≤ X.heap.size → I k X → Ax k a₁ X → body.wpIn (Fence.wide.inRound l) (n - 1 - 1) P (goesPost w.heap.size S id Rg Rs X) a₁ X) →
        YieldAt Fence.wide (n - 1 - 1) P (w.heap.size + 1) (enc k) W fun e W' =>
          (e = .returned (.bool true) ∧ KeepsC S W W' ∧ W'.heap[w.heap.size + 1]? = some (.loop (rec .ready none)) ∧ W'.heap[w.heap.size]? = some (.deferred (some [])) ∧ ∃ W3, Rg W3 ∧ W' = W3.putObj (w.heap.size + 1) (.loop (rec .ready none))) ∨
          (e = .returned (.bool false) ∧ W'.heap[w.heap.size + 1]? = some (.loop (rec .done (some (.exit id)))) ∧ W'.heap[w.heap.size]? = some (.deferred (some [])) ∧ ∃ W3, Rs W3 ∧ W' = W3.putObj (w.heap.size + 1) (.loop (rec .done (some (.exit id))))) := by
      intro k W Rg Rs hkm hlt hi hl hk hbody
      have hy := run_yield (P := P) (args := enc k) hl (by rw [hrec]; exact hps k)
      rw [hrec] at hy
      refine ⟨fn, _, assign, body, hy, roundIn_of_wpIn hfn (hassign _ k W _ (by omega) hkm hi fun a₁ X hf hc hx ha => ?_)⟩
      have hlX := hf.same _ _ (by omega) hl rfl
      have hkX := hf.same _ _ (Nat.le_refl _) hk rfl
      have hltX : w.heap.size + 1 < X.heap.size := (Array.getElem?_eq_some_iff.1 hlX).1
      refine ⟨_, run_beginRound hlX (by rw [hrec]), ?_⟩
      have hl2 : (X.putObj (w.heap.size + 1) (.loop { rec .ready none with state := .busy })).heap[w.heap.size + 1]? = some (.loop { rec .ready none with state := .busy }) := World.putObj_heap_same hltX
      have hk2 : (X.putObj (w.heap.size + 1) (.loop { rec .ready none with state := .busy })).heap[w.heap.size]? = some (.deferred (some [])) := (World.putObj_heap_other (by omega)).trans hkX
      have hc2 := hc.trans (KeepsC.putObj S (o' := .loop { rec .ready none with state := .busy }) hlX rfl)
      refine wpIn_mono (hbody _ a₁ _ (by simp; omega) (hput k _ hx) (hAx k a₁ X _ _ _ ha hlX rfl)) ?_
      rintro e a3 W3 hp
      cases e with
      | normal =>
        obtain ⟨hk3, hkp3, hi3⟩ := hp
        have hl3 := hk3.same _ _ (by omega) hl2 rfl
        have hr := run_endRound (P := P) none hl3
        have hlt3 := (Array.getElem?_eq_some_iff.1 hl3).1
        refine ⟨_, _, hr, .inl ⟨rfl, (hc2.trans hkp3).trans (KeepsC.putObj S hl3 rfl), ?_, ?_, W3, hi3, ?_⟩⟩
        · rw [World.putObj_heap_same hlt3, hrec]; rfl
        · exact (World.putObj_heap_other (by omega)).trans (hk3.same _ _ (Nat.le_refl _) hk2 rfl)
        · rw [hrec]; rfl
      | exit i =>
        obtain ⟨rfl, hk3, hi3⟩ := hp
        have hl3 := hk3.same _ _ (by omega) hl2 rfl
        have hr := run_endRound (P := P) (some (.exit i)) hl3
        have hlt3 := (Array.getElem?_eq_some_iff.1 hl3).1
        refine ⟨_, _, hr, .inr ⟨rfl, ?_, ?_, W3, hi3, ?_⟩⟩
        · rw [World.putObj_heap_same hlt3, hrec]; rfl
        · exact (World.putObj_heap_other (by omega)).trans (hk3.same _ _ (Nat.le_refl _) hk2 rfl)
        · rw [hrec]; rfl
      | ret => exact hp.elim
      | goto t => exact hp.elim
      | panic ch => exact hp.elim
      | outgrown => exact hp.elim
    refine (hseq (w.heap.size + 1)
      (fun k W => I k W ∧ W.heap[w.heap.size + 1]? = some (.loop (rec .ready none)) ∧ W.heap[w.heap.size]? = some (.deferred (some [])))
      (fun W => Ix W ∧ W.heap[w.heap.size + 1]? = some (.loop (rec .done (some (.exit id)))) ∧ W.heap[w.heap.size]? = some (.deferred (some [])))
      W1 hb1 ?_ ?_ ?_ ?_ ⟨hI 0 _ _ h0 hb1, hL1, hK1⟩).mono ?_
    · intro k X Y row hs hg' hr
      have hlt : w.heap.size + 1 < X.heap.size := (Array.getElem?_eq_some_iff.1 hs.2.1).1
      exact ⟨below_stay (hI k) (by omega) hs.1 hg' (fun r e => (hr r e).1), kept_obj hs.2.1 rfl hg' (fun r e => (hr r e).2), kept_obj hs.2.2 rfl hg' (fun r e => (hr r e).2)⟩
    · intro X Y row hs hg' hr
      have hlt : w.heap.size + 1 < X.heap.size := (Array.getElem?_eq_some_iff.1 hs.2.1).1
      exact ⟨below_stay hIx (by omega) hs.1 hg' (fun r e => (hr r e).1), kept_obj hs.2.1 rfl hg' (fun r e => (hr r e).2), kept_obj hs.2.2 rfl hg' (fun r e => (hr r e).2)⟩
    · rintro k W hk ⟨hi, hl, hd⟩
      have hlt : w.heap.size + 1 < W.heap.size := (Array.getElem?_eq_some_iff.1 hl).1
      obtain ⟨fn', tmps, as', bd, hy, hR⟩ := round k W (I (k + 1)) (fun _ => False) (by omega) hlt hi hl hd (fun l a₁ X hz hx ha => hgo l k a₁ X hz hk hx ha)
      refine ⟨fn', tmps, as', bd, hy, hR.mono ?_⟩
      rintro e W' (⟨rfl, hc, hl', hd', W3, h3, rfl⟩ | ⟨rfl, _, _, W3, h3, _⟩)
      · exact ⟨rfl, ⟨hput _ _ h3, hl', hd'⟩, hc⟩
      · exact h3.elim
    · rintro W ⟨hi, hl, hd⟩
      have hlt : w.heap.size + 1 < W.heap.size := (Array.getElem?_eq_some_iff.1 hl).1
      obtain ⟨fn', tmps, as', bd, hy, hR⟩ := round m W (fun _ => False) Ix (Nat.le_refl _) hlt hi hl hd (fun l a₁ X hz hx ha => hend l a₁ X hz hx ha)
      refine ⟨fn', tmps, as', bd, hy, hR.mono ?_⟩
      rintro e W' (⟨rfl, hc, hl', hd', W3, h3, rfl⟩ | ⟨rfl, hl', hd', W3, h3, rfl⟩)
      · exact h3.elim
      · exact ⟨rfl, hputx _ h3, hl', hd'⟩
    · rintro e W2 ⟨⟨v, rfl⟩, hi, hl, hk⟩
      exact ⟨some (.exit id), _, by have := run_endLoop (P := P) hl (by rw [hrec]; simp); rw [hrec] at this; exact this, hstop _ _ (Nat.le_refl _) (hputx _ hi) ((World.putObj_heap_other (by omega)).trans hk)⟩
end Go.Proofs.YtkhhejkemkldgaaDoor
