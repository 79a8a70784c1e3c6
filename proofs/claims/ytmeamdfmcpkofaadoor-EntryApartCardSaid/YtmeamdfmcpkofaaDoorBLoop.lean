/- A range over a function whose iterator keeps one block of cells of its own: the first that it lays. -/
import Derived.RangeFuncNested
import Derived.RangeFuncBound
import Derived.RangeFuncCalls
import Derived.RangeFuncLeaves
import Derived.RangeFuncBox
import Derived.Shelf.Abstract
import Derived.Below
set_option linter.unusedVariables false
namespace Go.Proofs.YtmeamdfmcpkofaaDoor
open Go.RowKit
/-- All blocks below B but those of S are as they were. -/
structure Only (B : Nat) (S : Nat → Prop) (W W' : World) : Prop where
  size : W.heap.size ≤ W'.heap.size
  block : ∀ k, k < B → ¬ S k → W'.heap[k]? = W.heap[k]?
theorem Only.refl (B : Nat) (S : Nat → Prop) (W : World) : Only B S W W := ⟨Nat.le_refl _, fun _ _ _ => rfl⟩
theorem Only.trans {B : Nat} {S : Nat → Prop} {X Y Z : World} (h : Only B S X Y) (k : Only B S Y Z) : Only B S X Z := ⟨Nat.le_trans h.size k.size, fun j hj hs => (k.block j hj hs).trans (h.block j hj hs)⟩
theorem Only.mono {B B' : Nat} {S : Nat → Prop} {X Y : World} (h : Only B S X Y) (hB : B' ≤ B) : Only B' S X Y := ⟨h.size, fun j hj hs => h.block j (by omega) hs⟩
theorem Only.of {B B' : Nat} {S : Nat → Prop} {X Y : World} (h : Below B' X Y) (hB : B ≤ B') : Only B S X Y := ⟨h.size, fun j hj _ => h.block j (by omega)⟩
theorem Only.alloc {B : Nat} {S : Nat → Prop} {X Y : World} (h : Only B S X Y) (hB : B ≤ Y.heap.size) (o : Obj) : Only B S X (Y.alloc o) := h.trans (Only.of (((Below.refl Y.heap.size Y).alloc (Nat.le_refl _) o)) hB)
theorem Only.setCell {B : Nat} {S : Nat → Prop} {X Y : World} (h : Only B S X Y) (p : Addr) (hp : S p.block) (v : Value) : Only B S X (Y.setCell p v) :=
  h.trans ⟨by simp, fun k _ hs => heap_setCell_other Y p k v (fun e => hs (by rw [e]; exact hp))⟩
theorem Only.grown {B : Nat} {S : Nat → Prop} {X Y : World} {row : Option Nat} (h : X.grownBy Y row) (hB : B ≤ X.heap.size) (hr : ∀ r, row = some r → B ≤ r ∨ S r) : Only B S X Y :=
  ⟨h.size, fun k hk hs => h.block k (by omega) (fun e => by rcases hr k e.symm with q | q; omega; exact hs q)⟩
/-- All blocks of cells of type T are as they were. -/
def KT (T : TypeId) (W W' : World) : Prop := ∀ (g : Nat) (cs : Array Value) (fr : Nat × Nat), W.heap[g]? = some (.cells cs T fr) → W'.heap[g]? = some (.cells cs T fr)
theorem KT.refl (T : TypeId) (W : World) : KT T W W := fun _ _ _ h => h
theorem KT.trans {T : TypeId} {X Y Z : World} (h : KT T X Y) (k : KT T Y Z) : KT T X Z := fun g cs fr e => k g cs fr (h g cs fr e)
theorem KT.of {T : TypeId} {X Y : World} (h : Below X.heap.size X Y) : KT T X Y := fun g cs fr e => (h.block g (Array.getElem?_eq_some_iff.1 e).1).trans e
theorem KT.alloc {T : TypeId} {X Y : World} (h : KT T X Y) (o : Obj) : KT T X (Y.alloc o) := h.trans (KT.of ((Below.refl _ _).alloc (Nat.le_refl _) o))
theorem KT.putObj {T : TypeId} {W : World} {l : Nat} {o : Obj} (o' : Obj) (h : W.heap[l]? = some o) (h1 : o.isCells = false) : KT T W (W.putObj l o') := by
  intro g cs fr e
  have hne : l ≠ g := by
    intro q
    rw [← q, h] at e
    cases e
    cases h1
  exact (World.putObj_heap_other (Ne.symm hne)).trans e
theorem KT.setCell {T T' : TypeId} {X Y : World} (k : KT T X Y) {p : Addr} {cs : Array Value} {fr : Nat × Nat} (v : Value) (h : Y.heap[p.block]? = some (.cells cs T' fr)) (hne : T' ≠ T) : KT T X (Y.setCell p v) := by
  intro g ds gr e
  have e2 := k g ds gr e
  refine (heap_setCell_other Y p g v (fun q => ?_)).trans e2
  rw [q, h] at e2
  cases e2
  exact hne rfl
/-- What stays under new blocks, and under whatever is written to the blocks from A to B. -/
def Steady (A B : Nat) (J : World → Prop) : Prop := ∀ X Y row, J X → X.grownBy Y row → (∀ r, row = some r → A ≤ r ∧ r ≤ B) → J Y
theorem Steady.alloc {A B : Nat} {J : World → Prop} (h : Steady A B J) {W : World} (hJ : J W) (o : Obj) : J (W.alloc o) := h W _ none hJ (World.grownBy_alloc W o none) (fun r e => by cases e)
theorem Steady.putObj {A B : Nat} {J : World → Prop} (h : Steady A B J) {W : World} (hJ : J W) {l : Nat} (o : Obj) (hl : A ≤ l ∧ l ≤ B) : J (W.putObj l o) := h W _ (some l) hJ (grownBy_putObj' W l o) (fun r e => by cases e; exact hl)
theorem Steady.and {A B : Nat} {J K : World → Prop} (h : Steady A B J) (k : Steady A B K) : Steady A B (fun W => J W ∧ K W) := fun X Y row hs hg hr => ⟨h X Y row hs.1 hg hr, k X Y row hs.2 hg hr⟩
theorem steady_pure (A B : Nat) (p : Prop) : Steady A B (fun _ => p) := fun _ _ _ h _ _ => h
theorem steady_block (A B b : Nat) (o : Obj) (h : b < A ∨ B < b) : Steady A B (fun W => W.heap[b]? = some o) := fun X Y row hs hg hr =>
  (hg.block b (Array.getElem?_eq_some_iff.1 hs).1 (fun e => by have := hr b e.symm; omega)).trans hs
theorem steady_below (A B n : Nat) (w : World) (h : n ≤ A) (hw : n ≤ w.heap.size) : Steady A B (fun W => Below n w W) := fun X Y row hs hg hr =>
  hs.trans ⟨hg.os, hg.tape, hg.output, hg.size, fun k hk => hg.block k (by have := hs.size; omega) (fun e => by have := hr k e.symm; omega)⟩
/-- An iterator that gives the list xs, and writes to nothing but the first block that it lays; the rounds write to S alone of what lay there, and to no cells of type T. -/
def SeqOwn {α : Type} (T : TypeId) (n : Nat) (P : Program) (g : Nat) (lb : Array Value) (enc : α → Array Value) (S : Nat → Prop) (xs : List α) (w : World) : Prop :=
  ∀ (l : Nat) (J Jx : List α → World → Prop) (W : World), Below w.heap.size w W → (∀ pre, Steady W.heap.size W.heap.size (J pre)) →
    (∀ pre x W1, pre ++ [x] <+: xs → W.heap.size < W1.heap.size → J pre W1 → YieldAt Fence.wide (n - 1) P l (enc x) W1 fun e W' =>
      (e = .returned (.bool true) ∧ J (pre ++ [x]) W' ∧ Only (W.heap.size + 1) S W1 W' ∧ KT T W1 W') ∨ (e = .returned (.bool false) ∧ Jx (pre ++ [x]) W')) →
    J [] W → CallsIn Fence.wide n P g (#[.func (.yield l) #[] #[]] ++ lb) W fun e W' => (∃ v, e = .returned v) ∧ (J xs W' ∨ ∃ pre, pre <+: xs ∧ Jx pre W')
/-- How a round is left: on to the next one, or by the break. -/
def minePost (T : TypeId) (B : Nat) (S : Nat → Prop) (id : Nat) (I Ix : World → Prop) (W : World) : Exit → Act → World → Prop
  | .normal, _, W' => Only B S W W' ∧ KT T W W' ∧ I W'
  | .exit i, _, W' => i = id ∧ Only B S W W' ∧ Ix W'
  | _, _, _ => False
theorem wpIn_rangeFunc_mine {α : Type} {n : Nat} {P : Program} {g : Operand} {ps : Array Tmp} {assign body : Code} {Q : Exit → Act → World → Prop} {a : Act} {w : World}
    {gf : Nat} {lb : Array Value} (hg : a.eval g = .func (.func gf) #[] lb) (eg : ∀ args w, (callFunc gf args).run P w = .ok (.enter gf args) w)
    (xs : List α) (enc : α → Array Value) (S : Nat → Prop) (id : Nat) (T : TypeId) (hseq : SeqOwn T (n - 1) P gf lb enc S xs w) (hps : ∀ x, (enc x).size = ps.size) (hS : ∀ j, S j → j < w.heap.size)
    (I Ix : List α → World → Prop) (hI : ∀ pre, Steady w.heap.size (w.heap.size + 2) (I pre)) (hIx : ∀ pre, Steady w.heap.size (w.heap.size + 2) (Ix pre)) (h0 : I [] w)
    (Ax : List α → α → Act → World → Prop) (hAx : ∀ pre x a₁, Steady w.heap.size (w.heap.size + 2) (Ax pre x a₁))
    (hassign : ∀ (l : Nat) (pre : List α) (x : α) (W : World) (K : Act → World → Prop), w.heap.size + 3 ≤ W.heap.size → pre ++ [x] <+: xs → I pre W → (∀ a₁ W', Only (w.heap.size + 3) S W W' → KT T W W' → I pre W' → Ax pre x a₁ W' → K a₁ W') →
      assign.wpIn (Fence.wide.inRound l) (n - 1 - 1) P (Exit.then K (fun _ _ _ => False)) { tmps := (ps.zip (enc x)).foldl (fun t (p, v) => t.setIfInBounds p v) a.tmps, defers := [] } W)
    (hbody : ∀ (l : Nat) (pre : List α) (x : α) (a₁ : Act) (W : World), w.heap.size + 3 ≤ W.heap.size → pre ++ [x] <+: xs → I pre W → Ax pre x a₁ W → body.wpIn (Fence.wide.inRound l) (n - 1 - 1) P (minePost T (w.heap.size + 3) S id (I (pre ++ [x])) (Ix (pre ++ [x])) W) a₁ W)
    (hdone : ∀ (D : Nat) (W : World), w.heap.size ≤ D → I xs W → W.heap[D]? = some (.deferred (some [])) → Q .normal { a with defers := { target := .collected D, args := #[] } :: a.defers } W)
    (hstop : ∀ (D : Nat) (pre : List α) (W : World), w.heap.size ≤ D → pre <+: xs → Ix pre W → W.heap[D]? = some (.deferred (some [])) → (Code.exit id).wpIn Fence.wide n P Q { a with defers := { target := .collected D, args := #[] } :: a.defers } W) :
    (Code.rangeFunc g ps assign body).wpIn Fence.wide n P Q a w := by
  refine wpIn_rangeFunc ?_
  intro fn hfn
  rw [show Fence.wide.round = none from rfl]
  obtain ⟨rec, hrec⟩ : ∃ rec : LoopState → Option Code → Loop, rec = fun st pe => { state := st, pending := pe, fn, tmps := a.tmps, params := ps, assign, body, defers := w.heap.size } := ⟨_, rfl⟩
  obtain ⟨W1, hW1⟩ : ∃ W1, (w.alloc (.deferred (some []))).alloc (.loop (rec .ready none)) = W1 := ⟨_, rfl⟩
  have hs1 : W1.heap.size = w.heap.size + 2 := by rw [← hW1]; simp
  have hL1 : W1.heap[w.heap.size + 1]? = some (.loop (rec .ready none)) := by
    rw [← hW1]; have := World.alloc_heap_new (w.alloc (.deferred (some []))) (.loop (rec .ready none)); rwa [World.size_alloc] at this
  have hK1 : W1.heap[w.heap.size]? = some (.deferred (some [])) := by
    rw [← hW1]; exact (Below.heap_alloc _ _ _ (by simp)).trans (World.alloc_heap_new w _)
  have hb1 : Below w.heap.size w W1 := by
    rw [← hW1]; exact ((Below.refl _ w).alloc (Nat.le_refl _) _).alloc (by simp) _
  have hI1 : I [] W1 := by rw [← hW1]; exact (hI []).alloc ((hI []).alloc h0 _) _
  have hnS : ∀ j, w.heap.size ≤ j → ¬ S j := fun j hj hs => by have := hS j hs; omega
  refine ⟨w.heap.size + 1, [{ target := .collected w.heap.size, args := #[] }], W1, { target := .fn (.func gf) lb, args := #[.func (.yield (w.heap.size + 1)) #[] #[]] }, W1, gf,
    #[.func (.yield (w.heap.size + 1)) #[] #[]] ++ lb, W1, ?_, ?_, ?_, ?_, fun h => (by cases h), ?_⟩
  · rw [← hW1, hrec]; exact run_enterLoop_outer _ _ _ _ _
  · simp only [resolve, hg]
    simp [go_sem]
  · intro f' hf'; exact trivial
  · simp [invoke, go_sem, eg]
  · refine (hseq (w.heap.size + 1)
      (fun pre W => I pre W ∧ W.heap[w.heap.size + 1]? = some (.loop (rec .ready none)) ∧ W.heap[w.heap.size]? = some (.deferred (some [])))
      (fun pre W => Ix pre W ∧ W.heap[w.heap.size + 1]? = some (.loop (rec .done (some (.exit id)))) ∧ W.heap[w.heap.size]? = some (.deferred (some [])))
      W1 hb1 ?_ ?_ ⟨hI1, hL1, hK1⟩).mono ?_
    · intro pre X Y row hs hg' hr
      rw [hs1] at hr
      exact ⟨hI pre X Y row hs.1 hg' (fun r e => by have := hr r e; omega),
        (hg'.block _ (Array.getElem?_eq_some_iff.1 hs.2.1).1 (fun e => by have := hr _ e.symm; omega)).trans hs.2.1,
        (hg'.block _ (Array.getElem?_eq_some_iff.1 hs.2.2).1 (fun e => by have := hr _ e.symm; omega)).trans hs.2.2⟩
    · rintro pre x W hpre hsz ⟨hi, hl, hk⟩
      rw [hs1] at hsz ⊢
      have hy := run_yield (P := P) (args := enc x) hl (by rw [hrec]; exact hps x)
      rw [hrec] at hy
      refine ⟨fn, _, assign, body, hy, roundIn_of_wpIn hfn (hassign _ pre x W _ (by omega) hpre hi fun a₁ X hf hkt hx ha => ?_)⟩
      have hlX := (hf.block _ (by omega) (hnS _ (by omega))).trans hl
      have hkX := (hf.block _ (by omega) (hnS _ (by omega))).trans hk
      have hltX : w.heap.size + 1 < X.heap.size := (Array.getElem?_eq_some_iff.1 hlX).1
      refine ⟨_, run_beginRound hlX (by rw [hrec]), ?_⟩
      have hl2 : (X.putObj (w.heap.size + 1) (.loop { rec .ready none with state := .busy })).heap[w.heap.size + 1]? = some (.loop { rec .ready none with state := .busy }) := World.putObj_heap_same hltX
      have hk2 : (X.putObj (w.heap.size + 1) (.loop { rec .ready none with state := .busy })).heap[w.heap.size]? = some (.deferred (some [])) := (World.putObj_heap_other (by omega)).trans hkX
      have hput : ∀ (Y : World) (o : Obj) (k : Nat), k < w.heap.size + 3 → k ≠ w.heap.size + 1 → (Y.putObj (w.heap.size + 1) o).heap[k]? = Y.heap[k]? := fun Y o k _ hk => World.putObj_heap_other hk
      have hsX := hf.size
      refine wpIn_mono (hbody _ pre x a₁ _ (by simp; omega) hpre ((hI pre).putObj hx _ (by omega)) ((hAx pre x a₁).putObj ha _ (by omega))) ?_
      rintro e a3 W3 hp
      cases e with
      | normal =>
        obtain ⟨hk3, hkt3, hi3⟩ := hp
        have hl3 := (hk3.block _ (by omega) (hnS _ (by omega))).trans hl2
        have hd3 := (hk3.block _ (by omega) (hnS _ (by omega))).trans hk2
        have hr := run_endRound (P := P) none hl3
        have hlt3 := (Array.getElem?_eq_some_iff.1 hl3).1
        refine ⟨_, _, hr, .inl ⟨rfl, ⟨(hI _).putObj hi3 _ (by omega), ?_, ?_⟩, ?_, ((hkt.trans (KT.putObj _ hlX rfl)).trans hkt3).trans (KT.putObj _ hl3 rfl)⟩⟩
        · rw [World.putObj_heap_same hlt3, hrec]; rfl
        · exact (World.putObj_heap_other (by omega)).trans hd3
        · have hs3 := hk3.size
          refine ⟨by simp at hs3 ⊢; omega, fun k hk hs => ?_⟩
          by_cases hk1 : k = w.heap.size + 1
          · rw [hk1, World.putObj_heap_same hlt3, hl, hrec]; rfl
          · rw [hput _ _ k (by omega) hk1, hk3.block k (by omega) hs, hput _ _ k (by omega) hk1]
            exact hf.block k (by omega) hs
      | exit i =>
        obtain ⟨rfl, hk3, hi3⟩ := hp
        have hl3 := (hk3.block _ (by omega) (hnS _ (by omega))).trans hl2
        have hd3 := (hk3.block _ (by omega) (hnS _ (by omega))).trans hk2
        have hr := run_endRound (P := P) (some (.exit i)) hl3
        have hlt3 := (Array.getElem?_eq_some_iff.1 hl3).1
        refine ⟨_, _, hr, .inr ⟨rfl, (hIx _).putObj hi3 _ (by omega), ?_, ?_⟩⟩
        · rw [World.putObj_heap_same hlt3, hrec]; rfl
        · exact (World.putObj_heap_other (by omega)).trans hd3
      | ret => exact hp.elim
      | goto t => exact hp.elim
      | panic ch => exact hp.elim
      | outgrown => exact hp.elim
    · rintro e W2 ⟨⟨v, rfl⟩, (⟨hi, hl, hk⟩ | ⟨pre, hp, hi, hl, hk⟩)⟩
      · exact ⟨none, _, by have := run_endLoop (P := P) hl (by rw [hrec]; simp); rw [hrec] at this; exact this, hdone _ _ (Nat.le_refl _) ((hI _).putObj hi _ (by omega)) ((World.putObj_heap_other (by omega)).trans hk)⟩
      · exact ⟨some (.exit id), _, by have := run_endLoop (P := P) hl (by rw [hrec]; simp); rw [hrec] at this; exact this, hstop _ pre _ (Nat.le_refl _) hp ((hIx _).putObj hi _ (by omega)) ((World.putObj_heap_other (by omega)).trans hk)⟩
end Go.Proofs.YtmeamdfmcpkofaaDoor
