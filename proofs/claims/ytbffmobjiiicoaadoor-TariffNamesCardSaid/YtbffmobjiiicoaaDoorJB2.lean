/- Joined: BLoop BIter KScope BFind BBand. -/
import Derived.Test.YtbffmobjiiicoaaDoorJB1
import Derived.RangeFuncNested
import Derived.RangeFuncBound
import Derived.RangeFuncCalls
import Derived.RangeFuncLeaves
import Derived.RangeFuncBox
import Derived.Shelf.Abstract
import Derived.Below
import Derived.LoopNIn
import Derived.LoopIn
import Derived.TacticsInMore
import Derived.ControlIn
import Derived.Scope
import Derived.WalkMore
section
/- A range over a function whose iterator keeps one block of cells of its own: the first that it lays. -/
set_option linter.unusedVariables false
namespace Go.Proofs.YtbffmobjiiicoaaDoor.B9
open Go.RowKit
/-- All blocks below B but those of S are as they were. -/
structure Only (B : Nat) (S : Nat → Prop) (W W' : World) : Prop where
  size : W.heap.size ≤ W'.heap.size
  block : ∀ k, k < B → ¬ S k → W'.heap[k]? = W.heap[k]?
theorem Only.refl (B : Nat) (S : Nat → Prop) (W : World) : Only B S W W := ⟨Nat.le_refl _, fun _ _ _ => rfl⟩
theorem Only.trans {B : Nat} {S : Nat → Prop} {X Y Z : World} (h : Only B S X Y) (k : Only B S Y Z) : Only B S X Z := ⟨Nat.le_trans h.size k.size, fun j hj hs => (k.block j hj hs).trans (h.block j hj hs)⟩
theorem Only.mono {B B' : Nat} {S : Nat → Prop} {X Y : World} (h : Only B S X Y) (hB : B' ≤ B) : Only B' S X Y := ⟨h.size, fun j hj hs => h.block j (by omega) hs⟩
theorem Only.of {B B' : Nat} {S : Nat → Prop} {X Y : World} (h : Below B' X Y) (hB : B ≤ B') : Only B S X Y := ⟨h.size, fun j hj _ => h.block j (by omega)⟩
theorem Only.alloc {B : Nat} {S : Nat → Prop} {X Y : World} (h : Only B S X Y) (hB : B ≤ Y.heap.size) (o : Obj) : Only B S X (Y.alloc o) := h.trans (Only.of (((Below.refl Y.heap.size Y).alloc (Nat.le_refl _) o)) hB)
theorem Only.setCell {B : Nat} {S : Nat → Prop} {X Y : World} (h : Only B S X Y) (p : Addr) (hp : S p.block) (v : Value) : Only B S X (Y.setCell p v) :=
  h.trans ⟨by simp, fun k _ hs => heap_setCell_other Y p k v (fun e => hs (by rw [e]; exact hp))⟩
theorem Only.grown {B : Nat} {S : Nat → Prop} {X Y : World} {row : Option Nat} (h : X.grownBy Y row) (hB : B ≤ X.heap.size) (hr : ∀ r, row = some r → B ≤ r ∨ S r) : Only B S X Y :=
  ⟨h.size, fun k hk hs => h.block k (by omega) (fun e => by rcases hr k e.symm with q | q; omega; exact hs q)⟩
/-- All blocks of cells of type T are as they were. -/
def KT (T : TypeId) (W W' : World) : Prop := ∀ (g : Nat) (cs : Array Value) (fr : Nat × Nat), W.heap[g]? = some (.cells cs T fr) → W'.heap[g]? = some (.cells cs T fr)
theorem KT.refl (T : TypeId) (W : World) : KT T W W := fun _ _ _ h => h
theorem KT.trans {T : TypeId} {X Y Z : World} (h : KT T X Y) (k : KT T Y Z) : KT T X Z := fun g cs fr e => k g cs fr (h g cs fr e)
theorem KT.of {T : TypeId} {X Y : World} (h : Below X.heap.size X Y) : KT T X Y := fun g cs fr e => (h.block g (Array.getElem?_eq_some_iff.1 e).1).trans e
theorem KT.alloc {T : TypeId} {X Y : World} (h : KT T X Y) (o : Obj) : KT T X (Y.alloc o) := h.trans (KT.of ((Below.refl _ _).alloc (Nat.le_refl _) o))
theorem KT.putObj {T : TypeId} {W : World} {l : Nat} {o : Obj} (o' : Obj) (h : W.heap[l]? = some o) (h1 : o.isCells = false) : KT T W (W.putObj l o') := by
  intro g cs fr e
  have hne : l ≠ g := by
    intro q
    rw [← q, h] at e
    cases e
    cases h1
  exact (World.putObj_heap_other (Ne.symm hne)).trans e
theorem KT.setCell {T T' : TypeId} {X Y : World} (k : KT T X Y) {p : Addr} {cs : Array Value} {fr : Nat × Nat} (v : Value) (h : Y.heap[p.block]? = some (.cells cs T' fr)) (hne : T' ≠ T) : KT T X (Y.setCell p v) := by
  intro g ds gr e
  have e2 := k g ds gr e
  refine (heap_setCell_other Y p g v (fun q => ?_)).trans e2
  rw [q, h] at e2
  cases e2
  exact hne rfl
/-- What stays under new blocks, and under whatever is written to the blocks from A to B. -/
def Steady (A B : Nat) (J : World → Prop) : Prop := ∀ X Y row, J X → X.grownBy Y row → (∀ r, row = some r → A ≤ r ∧ r ≤ B) → J Y
theorem Steady.alloc {A B : Nat} {J : World → Prop} (h : Steady A B J) {W : World} (hJ : J W) (o : Obj) : J (W.alloc o) := h W _ none hJ (World.grownBy_alloc W o none) (fun r e => by cases e)
theorem Steady.putObj {A B : Nat} {J : World → Prop} (h : Steady A B J) {W : World} (hJ : J W) {l : Nat} (o : Obj) (hl : A ≤ l ∧ l ≤ B) : J (W.putObj l o) := h W _ (some l) hJ (grownBy_putObj' W l o) (fun r e => by cases e; exact hl)
theorem Steady.and {A B : Nat} {J K : World → Prop} (h : Steady A B J) (k : Steady A B K) : Steady A B (fun W => J W ∧ K W) := fun X Y row hs hg hr => ⟨h X Y row hs.1 hg hr, k X Y row hs.2 hg hr⟩
theorem steady_pure (A B : Nat) (p : Prop) : Steady A B (fun _ => p) := fun _ _ _ h _ _ => h
theorem steady_block (A B b : Nat) (o : Obj) (h : b < A ∨ B < b) : Steady A B (fun W => W.heap[b]? = some o) := fun X Y row hs hg hr =>
  (hg.block b (Array.getElem?_eq_some_iff.1 hs).1 (fun e => by have := hr b e.symm; omega)).trans hs
theorem steady_below (A B n : Nat) (w : World) (h : n ≤ A) (hw : n ≤ w.heap.size) : Steady A B (fun W => Below n w W) := fun X Y row hs hg hr =>
  hs.trans ⟨hg.os, hg.tape, hg.output, hg.size, fun k hk => hg.block k (by have := hs.size; omega) (fun e => by have := hr k e.symm; omega)⟩
/-- An iterator that gives the list xs, and writes to nothing but the first block that it lays; the rounds write to S alone of what lay there, and to no cells of type T. -/
def SeqOwn {α : Type} (T : TypeId) (n : Nat) (P : Program) (g : Nat) (lb : Array Value) (enc : α → Array Value) (S : Nat → Prop) (xs : List α) (w : World) : Prop :=
  ∀ (l : Nat) (J Jx : List α → World → Prop) (W : World), Below w.heap.size w W → (∀ pre, Steady W.heap.size W.heap.size (J pre)) →
    (∀ pre x W1, pre ++ [x] <+: xs → W.heap.size < W1.heap.size → J pre W1 → YieldAt Fence.wide (n - 1) P l (enc x) W1 fun e W' =>
      (e = .returned (.bool true) ∧ J (pre ++ [x]) W' ∧ Only (W.heap.size + 1) S W1 W' ∧ KT T W1 W') ∨ (e = .returned (.bool false) ∧ Jx (pre ++ [x]) W')) →
    J [] W → CallsIn Fence.wide n P g (#[.func (.yield l) #[] #[]] ++ lb) W fun e W' => (∃ v, e = .returned v) ∧ (J xs W' ∨ ∃ pre, pre <+: xs ∧ Jx pre W')
/-- How a round is left: on to the next one, or by the break. -/
def minePost (T : TypeId) (B : Nat) (S : Nat → Prop) (id : Nat) (I Ix : World → Prop) (W : World) : Exit → Act → World → Prop
  | .normal, _, W' => Only B S W W' ∧ KT T W W' ∧ I W'
  | .exit i, _, W' => i = id ∧ Only B S W W' ∧ Ix W'
  | _, _, _ => False
theorem wpIn_rangeFunc_mine {α : Type} {n : Nat} {P : Program} {g : Operand} {ps : Array Tmp} {assign body : Code} {Q : Exit → Act → World → Prop} {a : Act} {w : World}
    {gf : Nat} {lb : Array Value} (hg : a.eval g = .func (.func gf) #[] lb) (eg : ∀ args w, (callFunc gf args).run P w = .ok (.enter gf args) w)
    (xs : List α) (enc : α → Array Value) (S : Nat → Prop) (id : Nat) (T : TypeId) (hseq : SeqOwn T (n - 1) P gf lb enc S xs w) (hps : ∀ x, (enc x).size = ps.size) (hS : ∀ j, S j → j < w.heap.size)
    (I Ix : List α → World → Prop) (hI : ∀ pre, Steady w.heap.size (w.heap.size + 2) (I pre)) (hIx : ∀ pre, Steady w.heap.size (w.heap.size + 2) (Ix pre)) (h0 : I [] w)
    (Ax : List α → α → Act → World → Prop) (hAx : ∀ pre x a₁, Steady w.heap.size (w.heap.size + 2) (Ax pre x a₁))
    (hassign : ∀ (l : Nat) (pre : List α) (x : α) (W : World) (K : Act → World → Prop), w.heap.size + 3 ≤ W.heap.size → pre ++ [x] <+: xs → I pre W → (∀ a₁ W', Only (w.heap.size + 3) S W W' → KT T W W' → I pre W' → Ax pre x a₁ W' → K a₁ W') →
      assign.wpIn (Fence.wide.inRound l) (n - 1 - 1) P (Exit.then K (fun _ _ _ => False)) { tmps := (ps.zip (enc x)).foldl (fun t (p, v) => t.setIfInBounds p v) a.tmps, defers := [] } W)
    (hbody : ∀ (l : Nat) (pre : List α) (x : α) (a₁ : Act) (W : World), w.heap.size + 3 ≤ W.heap.size → pre ++ [x] <+: xs → I pre W → Ax pre x a₁ W → body.wpIn (Fence.wide.inRound l) (n - 1 - 1) P (minePost T (w.heap.size + 3) S id (I (pre ++ [x])) (Ix (pre ++ [x])) W) a₁ W)
    (hdone : ∀ (D : Nat) (W : World), w.heap.size ≤ D → I xs W → W.heap[D]? = some (.deferred (some [])) → Q .normal { a with defers := { target := .collected D, args := #[] } :: a.defers } W)
    (hstop : ∀ (D : Nat) (pre : List α) (W : World), w.heap.size ≤ D → pre <+: xs → Ix pre W → W.heap[D]? = some (.deferred (some [])) → (Code.exit id).wpIn Fence.wide n P Q { a with defers := { target := .collected D, args := #[] } :: a.defers } W) :
    (Code.rangeFunc g ps assign body).wpIn Fence.wide n P Q a w := by
  refine wpIn_rangeFunc ?_
  intro fn hfn
  rw [show Fence.wide.round = none from rfl]
  obtain ⟨rec, hrec⟩ : ∃ rec : LoopState → Option Code → Loop, rec = fun st pe => { state := st, pending := pe, fn, tmps := a.tmps, params := ps, assign, body, defers := w.heap.size } := ⟨_, rfl⟩
  obtain ⟨W1, hW1⟩ : ∃ W1, (w.alloc (.deferred (some []))).alloc (.loop (rec .ready none)) = W1 := ⟨_, rfl⟩
  have hs1 : W1.heap.size = w.heap.size + 2 := by rw [← hW1]; simp
  have hL1 : W1.heap[w.heap.size + 1]? = some (.loop (rec .ready none)) := by
    rw [← hW1]; have := World.alloc_heap_new (w.alloc (.deferred (some []))) (.loop (rec .ready none)); rwa [World.size_alloc] at this
  have hK1 : W1.heap[w.heap.size]? = some (.deferred (some [])) := by
    rw [← hW1]; exact (Below.heap_alloc _ _ _ (by simp)).trans (World.alloc_heap_new w _)
  have hb1 : Below w.heap.size w W1 := by
    rw [← hW1]; exact ((Below.refl _ w).alloc (Nat.le_refl _) _).alloc (by simp) _
  have hI1 : I [] W1 := by rw [← hW1]; exact (hI []).alloc ((hI []).alloc h0 _) _
  have hnS : ∀ j, w.heap.size ≤ j → ¬ S j := fun j hj hs => by have := hS j hs; omega
  refine ⟨w.heap.size + 1, [{ target := .collected w.heap.size, args := #[] }], W1, { target := .fn (.func gf) lb, args := #[.func (.yield (w.heap.size + 1)) #[] #[]] }, W1, gf,
    #[.func (.yield (w.heap.size + 1)) #[] #[]] ++ lb, W1, ?_, ?_, ?_, ?_, fun h => (by cases h), ?_⟩
  · rw [← hW1, hrec]; exact run_enterLoop_outer _ _ _ _ _
  · simp only [resolve, hg]
    simp [go_sem]
  · intro f' hf'; exact trivial
  · simp [invoke, go_sem, eg]
  · refine (hseq (w.heap.size + 1)
      (fun pre W => I pre W ∧ W.heap[w.heap.size + 1]? = some (.loop (rec .ready none)) ∧ W.heap[w.heap.size]? = some (.deferred (some [])))
      (fun pre W => Ix pre W ∧ W.heap[w.heap.size + 1]? = some (.loop (rec .done (some (.exit id)))) ∧ W.heap[w.heap.size]? = some (.deferred (some [])))
      W1 hb1 ?_ ?_ ⟨hI1, hL1, hK1⟩).mono ?_
    · intro pre X Y row hs hg' hr
      rw [hs1] at hr
      exact ⟨hI pre X Y row hs.1 hg' (fun r e => by have := hr r e; omega),
        (hg'.block _ (Array.getElem?_eq_some_iff.1 hs.2.1).1 (fun e => by have := hr _ e.symm; omega)).trans hs.2.1,
        (hg'.block _ (Array.getElem?_eq_some_iff.1 hs.2.2).1 (fun e => by have := hr _ e.symm; omega)).trans hs.2.2⟩
    · rintro pre x W hpre hsz ⟨hi, hl, hk⟩
      rw [hs1] at hsz ⊢
      have hy := run_yield (P := P) (args := enc x) hl (by rw [hrec]; exact hps x)
      rw [hrec] at hy
      refine ⟨fn, _, assign, body, hy, roundIn_of_wpIn hfn (hassign _ pre x W _ (by omega) hpre hi fun a₁ X hf hkt hx ha => ?_)⟩
      have hlX := (hf.block _ (by omega) (hnS _ (by omega))).trans hl
      have hkX := (hf.block _ (by omega) (hnS _ (by omega))).trans hk
      have hltX : w.heap.size + 1 < X.heap.size := (Array.getElem?_eq_some_iff.1 hlX).1
      refine ⟨_, run_beginRound hlX (by rw [hrec]), ?_⟩
      have hl2 : (X.putObj (w.heap.size + 1) (.loop { rec .ready none with state := .busy })).heap[w.heap.size + 1]? = some (.loop { rec .ready none with state := .busy }) := World.putObj_heap_same hltX
      have hk2 : (X.putObj (w.heap.size + 1) (.loop { rec .ready none with state := .busy })).heap[w.heap.size]? = some (.deferred (some [])) := (World.putObj_heap_other (by omega)).trans hkX
      have hput : ∀ (Y : World) (o : Obj) (k : Nat), k < w.heap.size + 3 → k ≠ w.heap.size + 1 → (Y.putObj (w.heap.size + 1) o).heap[k]? = Y.heap[k]? := fun Y o k _ hk => World.putObj_heap_other hk
      have hsX := hf.size
      refine wpIn_mono (hbody _ pre x a₁ _ (by simp; omega) hpre ((hI pre).putObj hx _ (by omega)) ((hAx pre x a₁).putObj ha _ (by omega))) ?_
      rintro e a3 W3 hp
      cases e with
      | normal =>
        obtain ⟨hk3, hkt3, hi3⟩ := hp
        have hl3 := (hk3.block _ (by omega) (hnS _ (by omega))).trans hl2
        have hd3 := (hk3.block _ (by omega) (hnS _ (by omega))).trans hk2
        have hr := run_endRound (P := P) none hl3
        have hlt3 := (Array.getElem?_eq_some_iff.1 hl3).1
        refine ⟨_, _, hr, .inl ⟨rfl, ⟨(hI _).putObj hi3 _ (by omega), ?_, ?_⟩, ?_, ((hkt.trans (KT.putObj _ hlX rfl)).trans hkt3).trans (KT.putObj _ hl3 rfl)⟩⟩
        · rw [World.putObj_heap_same hlt3, hrec]; rfl
        · exact (World.putObj_heap_other (by omega)).trans hd3
        · have hs3 := hk3.size
          refine ⟨by simp at hs3 ⊢; omega, fun k hk hs => ?_⟩
          by_cases hk1 : k = w.heap.size + 1
          · rw [hk1, World.putObj_heap_same hlt3, hl, hrec]; rfl
          · rw [hput _ _ k (by omega) hk1, hk3.block k (by omega) hs, hput _ _ k (by omega) hk1]
            exact hf.block k (by omega) hs
      | exit i =>
        obtain ⟨rfl, hk3, hi3⟩ := hp
        have hl3 := (hk3.block _ (by omega) (hnS _ (by omega))).trans hl2
        have hd3 := (hk3.block _ (by omega) (hnS _ (by omega))).trans hk2
        have hr := run_endRound (P := P) (some (.exit i)) hl3
        have hlt3 := (Array.getElem?_eq_some_iff.1 hl3).1
        refine ⟨_, _, hr, .inr ⟨rfl, (hIx _).putObj hi3 _ (by omega), ?_, ?_⟩⟩
        · rw [World.putObj_heap_same hlt3, hrec]; rfl
        · exact (World.putObj_heap_other (by omega)).trans hd3
      | ret => exact hp.elim
      | goto t => exact hp.elim
      | panic ch => exact hp.elim
      | outgrown => exact hp.elim
    · rintro e W2 ⟨⟨v, rfl⟩, (⟨hi, hl, hk⟩ | ⟨pre, hp, hi, hl, hk⟩)⟩
      · exact ⟨none, _, by have := run_endLoop (P := P) hl (by rw [hrec]; simp); rw [hrec] at this; exact this, hdone _ _ (Nat.le_refl _) ((hI _).putObj hi _ (by omega)) ((World.putObj_heap_other (by omega)).trans hk)⟩
      · exact ⟨some (.exit id), _, by have := run_endLoop (P := P) hl (by rw [hrec]; simp); rw [hrec] at this; exact this, hstop _ pre _ (Nat.le_refl _) hp ((hIx _).putObj hi _ (by omega)) ((World.putObj_heap_other (by omega)).trans hk)⟩
end Go.Proofs.YtbffmobjiiicoaaDoor.B9
end
section
/- The iterator stretchesOf. -/
set_option linter.unusedVariables false
set_option linter.unusedSimpArgs false
namespace Go.Proofs.YtbffmobjiiicoaaDoor.B9
open Go.RowKit Go.Shelf
attribute [local go_sem] Oper.semAt_some
theorem set3 {Z : World} {B : Nat} {x y z : Value} {T : TypeId} (h : Z.heap[B]? = some (.cells #[x, y, z] T (0, 0))) (a b c : Value) :
    (((Z.setCell ⟨B, 0, none⟩ a).setCell ⟨B, 1, none⟩ b).setCell ⟨B, 2, none⟩ c).heap[B]? = some (.cells #[a, b, c] T (0, 0)) :=
  heap_setCell_same _ B 2 _ _ _ (heap_setCell_same _ B 1 _ _ _ (heap_setCell_same _ B 0 _ _ _ h))
theorem set3_other {Z : World} {B C : Nat} (hne : C ≠ B) (a b c : Value) :
    (((Z.setCell ⟨B, 0, none⟩ a).setCell ⟨B, 1, none⟩ b).setCell ⟨B, 2, none⟩ c).heap[C]? = Z.heap[C]? :=
  (heap_setCell_other _ ⟨B, 2, none⟩ C _ hne).trans ((heap_setCell_other _ ⟨B, 1, none⟩ C _ hne).trans (heap_setCell_other _ ⟨B, 0, none⟩ C _ hne))
theorem set3_size {Z : World} {B : Nat} (a b c : Value) : (((Z.setCell ⟨B, 0, none⟩ a).setCell ⟨B, 1, none⟩ b).setCell ⟨B, 2, none⟩ c).heap.size = Z.heap.size := by simp
theorem set3_below {Z w : World} {B n : Nat} (h : Below n w Z) (hB : n ≤ B) (a b c : Value) :
    Below n w (((Z.setCell ⟨B, 0, none⟩ a).setCell ⟨B, 1, none⟩ b).setCell ⟨B, 2, none⟩ c) :=
  ((h.setCell (p := ⟨B, 0, none⟩) hB _).setCell (p := ⟨B, 1, none⟩) hB _).setCell (p := ⟨B, 2, none⟩) hB _
theorem set3_grown {Z : World} {B : Nat} (a b c : Value) : Z.grownBy (((Z.setCell ⟨B, 0, none⟩ a).setCell ⟨B, 1, none⟩ b).setCell ⟨B, 2, none⟩ c) (some B) :=
  ⟨rfl, rfl, rfl, by simp, fun k _ hk => set3_other (fun e => hk (by rw [e])) a b c⟩
theorem cells3 {W : World} {B : Nat} {x y z : Value} {T : TypeId} {fr : Nat × Nat} (h : W.heap[B]? = some (.cells #[x, y, z] T fr)) :
    W.cell? ⟨B, 0, none⟩ = some x ∧ W.cell? ⟨B, 1, none⟩ = some y ∧ W.cell? ⟨B, 2, none⟩ = some z :=
  ⟨cell_of_row W B 0 _ _ _ h, cell_of_row W B 1 _ _ _ h, cell_of_row W B 2 _ _ _ h⟩
theorem frozen3 {W : World} {B : Nat} {x y z : Value} {T : TypeId} (h : W.heap[B]? = some (.cells #[x, y, z] T (0, 0))) :
    W.frozen? ⟨B, 0, none⟩ = false ∧ W.frozen? ⟨B, 1, none⟩ = false ∧ W.frozen? ⟨B, 2, none⟩ = false :=
  ⟨frozen_of_row W B 0 _ _ h, frozen_of_row W B 1 _ _ h, frozen_of_row W B 2 _ _ h⟩
theorem set_grown (W : World) (b i : Nat) (v : Value) : W.grownBy (W.setCell ⟨b, i, none⟩ v) (some b) :=
  ⟨rfl, rfl, rfl, by simp, fun k _ hk => heap_setCell_other W ⟨b, i, none⟩ k v (fun e => hk (by rw [e]))⟩
theorem Steady.grow {A B : Nat} {J : World → Prop} (h : Steady A B J) {W X : World} (hJ : J W) {b : Nat} (hg : W.grownBy X (some b)) (hb : A ≤ b ∧ b ≤ B) : J X := h W X (some b) hJ hg (fun r e => by cases e; exact hb)
abbrev stC (s : St) : Array Value := #[.int .i64 s.b, .int .i64 s.e, .int .i64 s.d]
abbrev stV (s : St) : Value := .agg #[.int .i64 s.b, .int .i64 s.e, .int .i64 s.d]
def encS (s : St) : Array Value := #[.agg #[.int .i64 s.b, .int .i64 s.e, .int .i64 s.d]]
theorem SwsAt.only {B n : Nat} {S : Nat → Prop} {W X : World} {a : Option Addr} {len : Nat} {L : Nat → Sw} (h : SwsAt n W a len L) (hO : Only B S W X) (hB : n ≤ B) (hS : ∀ j, S j → n ≤ j) : SwsAt n X a len L := by
  intro i hi
  obtain ⟨b, o, e, hb, h0, h1⟩ := h i hi
  have hx : ∀ k, X.cell? ⟨b, k, none⟩ = W.cell? ⟨b, k, none⟩ := fun k => World.cell?_of_block (a := ⟨b, k, none⟩) (hO.block b (by omega) (fun q => by have := hS b q; omega))
  exact ⟨b, o, e, hb, (hx _).trans h0, (hx _).trans h1⟩
set_option maxRecDepth 100000 in
set_option maxHeartbeats 4000000 in
theorem str1_in (n : Nat) (hn : 1 ≤ n) (l Bp n₀ : Nat) (a : Option Addr) (len cap : Nat) (L : Nat → Sw) (hp : PlanIs L len) (S : Nat → Prop) (hS : ∀ j, S j → n₀ ≤ j ∧ j ≠ Bp) (W : World) (hSW : ∀ j, S j → j < W.heap.size) (hn0 : n₀ ≤ W.heap.size)
    (hbx : W.heap[Bp]? = some (.cells #[.slice a len cap] 77 (0, 0))) (hA : SwsAt n₀ W a len L)
    (J Jx : List St → World → Prop) (hJ : ∀ pre, Steady W.heap.size W.heap.size (J pre))
    (hY : ∀ pre x W1, pre ++ [x] <+: strs L len → W.heap.size < W1.heap.size → J pre W1 → YieldAt Fence.wide (n - 1) Tryd.prog l (encS x) W1 fun e W' =>
      (e = .returned (.bool true) ∧ J (pre ++ [x]) W' ∧ Only (W.heap.size + 1) S W1 W' ∧ KT 76 W1 W') ∨ (e = .returned (.bool false) ∧ Jx (pre ++ [x]) W')) (h0 : J [] W) :
    CallsIn Fence.wide n Tryd.prog 81 #[.func (.yield l) #[] #[], .pointer (some ⟨Bp, 0, none⟩)] W fun e W' => (∃ v, e = .returned v) ∧ (J (strs L len) W' ∨ ∃ pre, pre <+: strs L len ∧ Jx pre W') := by
  have hl1 := hp.1
  have hl2 := hp.2.1
  have c0 : W.cell? ⟨Bp, 0, none⟩ = some (.slice a len cap) := cell_of_row _ Bp 0 _ _ _ hbx
  obtain ⟨b, o, rfl, hc⟩ := hA.base (by omega)
  have c1 := (hc 0 (by omega)).2
  rw [Nat.zero_mul, Nat.add_zero] at c1
  obtain ⟨z, hz⟩ : ∃ z, (L 0).b = z := ⟨_, rfl⟩
  rw [hz] at c1
  have g3 : (0 : Int) < len := by omega
  obtain ⟨B, hB⟩ : ∃ B, B = W.heap.size := ⟨_, rfl⟩
  have hbl : Bp < W.heap.size := (Array.getElem?_eq_some_iff.1 hbx).1
  have hbp := heap_old hbx (.cells #[.int .i64 0, .int .i64 0, .int .i64 z] 106)
  have hnew := heap_alloc_new W (.cells #[.int .i64 0, .int .i64 0, .int .i64 z] 106)
  have c2 : (W.alloc (.cells #[.int .i64 0, .int .i64 0, .int .i64 z] 106)).cell? ⟨Bp, 0, none⟩ = some (.slice (some ⟨b, o, none⟩) len cap) := cell_of_row _ Bp 0 _ _ _ hbp
  have hO := (Only.refl B S W).alloc (Nat.le_of_eq hB) (.cells #[.int .i64 0, .int .i64 0, .int .i64 z] 106)
  have hJ0 := (hJ []).alloc h0 (.cells #[.int .i64 0, .int .i64 0, .int .i64 z] 106)
  rw [← hB] at hnew hJ hY hbl hn0 hSW
  have HA := Lib.hid hA
  have HJ := Lib.hid hJ
  have HY := Lib.hid hY
  have HS := Lib.hid hS
  have HSW := Lib.hid hSW
  have HO := Lib.hid hO
  have HNEW := Lib.hid hnew
  have HJ0 := Lib.hid hJ0
  have HZ := Lib.hid hz
  have HB := Lib.hid hB
  have HP := Lib.hid hp
  clear hA hJ hY hS hSW hO hnew hJ0 hz hc hbx hbp h0 hp hB
  refine callsIn_of_wp Tryd.func81 rfl trivial ?_ rfl
  simp only [Tryd.ntmps81, List.size_toArray, List.length_cons, List.length_nil, Nat.reduceAdd, Nat.reduceSub, Array.replicate_succ, Array.replicate_zero, List.push_toArray, List.append_toArray, List.nil_append, List.cons_append]
  gi_wp2
  rw [← HB.out]
  gi_loopw [13] (fun i wr => ∃ k : Nat, k ≤ len ∧ i = .int .i64 k ∧ J (stsOf L k) wr ∧ B < wr.heap.size ∧ Only B S W wr ∧ wr.heap[B]? = some (.cells #[.int .i64 (begOf L k), .int .i64 0, .int .i64 (bndOf L k)] 106 (0, 0))) (fun i _ => (len - intOf i).toNat)
  case atStart => exact ⟨0, Nat.zero_le _, rfl, HJ0.out, by rw [HB.out]; simp, HO.out, by rw [(st_zero L).2.1, (st_zero L).2.2, HZ.out]; exact HNEW.out⟩
  case round =>
    obtain ⟨k, hk, rfl, hJs, hBw, hOw, hnow⟩ := hrel
    clear c0 c1 c2 HJ0 HO HNEW
    have HOW := Lib.hid hOw
    have HJS := Lib.hid hJs
    clear hOw hJs
    by_cases hlt : k < len
    · have hlti : (k : Int) < len := by omega
      have hAr := HA.out.only HOW.out hn0 (fun j hj => (HS.out j hj).1)
      obtain ⟨b', o', e, hcr⟩ := hAr.base (by omega)
      cases e
      obtain ⟨c0, c1⟩ := hcr k hlt
      obtain ⟨m, hm⟩ : ∃ z, (L k).m = z := ⟨_, rfl⟩
      obtain ⟨bb, hbb⟩ : ∃ z, (L k).b = z := ⟨_, rfl⟩
      obtain ⟨nb, hnb⟩ : ∃ z, begOf L k = z := ⟨_, rfl⟩
      obtain ⟨nd, hnd⟩ : ∃ z, bndOf L k = z := ⟨_, rfl⟩
      rw [hm] at c0
      rw [hbb] at c1
      rw [hnb, hnd] at hnow
      have hw2 := heap_old hnow (.cells #[.int .i64 m, .int .i64 bb] 76)
      have hsw := heap_alloc_new wr (.cells #[.int .i64 m, .int .i64 bb] 76)
      have hO2 := HOW.out.alloc (Nat.le_of_lt hBw) (.cells #[.int .i64 m, .int .i64 bb] 76)
      have hJ2 := (HJ.out _).alloc HJS.out (.cells #[.int .i64 m, .int .i64 bb] 76)
      have hs2 : (wr.alloc (.cells #[.int .i64 m, .int .i64 bb] 76)).heap.size = wr.heap.size + 1 := World.size_alloc _ _
      obtain ⟨x0, x1, x2⟩ := cells3 hnow
      have HSW2 := Lib.hid hsw
      have HNOW := Lib.hid hnow
      have HO2 := Lib.hid hO2
      have HJ2 := Lib.hid hJ2
      have HW2 := Lib.hid hw2
      have HS2 := Lib.hid hs2
      have HM := Lib.hid hm
      have HBB := Lib.hid hbb
      have HNB := Lib.hid hnb
      have HND := Lib.hid hnd
      clear hcr hAr hnow hw2 hm hbb hnb hnd hJ2 hO2 hs2 hsw
      by_cases hsame : bb = nd
      · have q1 : (bb == nd) = true := by simp [hsame]
        have hst := st_same (L := L) (k := k) (by rw [HBB.out, HND.out]; exact hsame)
        have HST := Lib.hid hst
        clear hsame hst
        gi_wp2
        go_roundw
        case rel => exact ⟨k + 1, by omega, by go_num, by rw [HST.out.1]; exact HJ2.out, by rw [HS2.out]; omega, HO2.out, by rw [HST.out.2.1, HST.out.2.2, HNB.out, HND.out]; exact HW2.out⟩
        case measure => first | (simp [intOf]; done) | (simp [intOf]; omega)
      · have q1 : (bb == nd) = false := by simp [hsame]
        have hst := st_new (L := L) (k := k) (by rw [HBB.out, HND.out]; exact hsame)
        rw [HM.out, HBB.out, HNB.out, HND.out] at hst
        have hpre : stsOf L k ++ [⟨nb, m, nd⟩] <+: strs L len := by rw [← hst.1]; exact sts_strs L (by omega)
        have hf1 := frozen_of_row _ B 1 _ _ HNOW.out
        have hset0 : (wr.setCell ⟨B, 1, none⟩ (.int .i64 m)).heap[B]? = some (.cells #[.int .i64 nb, .int .i64 m, .int .i64 nd] 106 (0, 0)) := heap_setCell_same wr B 1 _ _ _ HNOW.out
        obtain ⟨d0, d1, d2⟩ := cells3 hset0
        clear hset0
        have hset : ((wr.setCell ⟨B, 1, none⟩ (.int .i64 m)).alloc (.cells #[.int .i64 m, .int .i64 bb] 76)).heap[B]? = some (.cells #[.int .i64 nb, .int .i64 m, .int .i64 nd] 106 (0, 0)) := heap_old (heap_setCell_same wr B 1 _ _ _ HNOW.out) _
        have hJ3 : J (stsOf L k) ((wr.setCell ⟨B, 1, none⟩ (.int .i64 m)).alloc (.cells #[.int .i64 m, .int .i64 bb] 76)) := (HJ.out _).alloc ((HJ.out _).grow HJS.out (set_grown _ B 1 _) ⟨Nat.le_refl _, Nat.le_refl _⟩) _
        have hsz3 : B < ((wr.setCell ⟨B, 1, none⟩ (.int .i64 m)).alloc (.cells #[.int .i64 m, .int .i64 bb] 76)).heap.size := by rw [World.size_alloc, World.size_setCell]; omega
        have hsw3 : ((wr.setCell ⟨B, 1, none⟩ (.int .i64 m)).alloc (.cells #[.int .i64 m, .int .i64 bb] 76)).heap[wr.heap.size]? = some (.cells #[.int .i64 m, .int .i64 bb] 76 (0, 0)) := by
          have := heap_alloc_new (wr.setCell ⟨B, 1, none⟩ (.int .i64 m)) (.cells #[.int .i64 m, .int .i64 bb] 76)
          rwa [World.size_setCell] at this
        have hO3 : Only B S W ((wr.setCell ⟨B, 1, none⟩ (.int .i64 m)).alloc (.cells #[.int .i64 m, .int .i64 bb] 76)) := (HOW.out.trans ⟨by simp, fun q hq _ => heap_setCell_other _ ⟨B, 1, none⟩ q _ (by show q ≠ B; omega)⟩).alloc (by rw [World.size_setCell]; omega) _
        obtain ⟨fn, tmps, assign, body, hyy, hR⟩ := HY.out (stsOf L k) ⟨nb, m, nd⟩ _ hpre hsz3 hJ3
        unfold encS at hyy
        have HR := Lib.hid hR
        have HSET := Lib.hid hset
        have HSZ3 := Lib.hid hsz3
        have HSW3 := Lib.hid hsw3
        have HO3 := Lib.hid hO3
        have HST := Lib.hid hst
        have HPRE := Lib.hid hpre
        clear hR hset hsz3 hsw3 hO3 hst hpre hJ3 hsame
        gi_wp2
        refine HR.out.mono ?_
        rintro e W6 (⟨rfl, hJ6, hO6, hK6⟩ | ⟨rfl, hJx6⟩)
        · have hs6 := hO6.size
          have hnow6 := (hO6.block B (by omega) (fun q => by have := HSW.out B q; omega)).trans HSET.out
          have hsw6 := hK6 _ _ _ HSW3.out
          have e0 : W6.cell? ⟨wr.heap.size, 0, none⟩ = some (.int .i64 m) := cell_of_row _ _ 0 _ _ _ hsw6
          have e1 : W6.cell? ⟨wr.heap.size, 1, none⟩ = some (.int .i64 bb) := cell_of_row _ _ 1 _ _ _ hsw6
          obtain ⟨f0, f1, f2⟩ := frozen3 hnow6
          obtain ⟨k0, k1, k2⟩ := cells3 hnow6
          have HN6 := Lib.hid hnow6
          have HJ6 := Lib.hid hJ6
          have HO6 := Lib.hid (HO3.out.trans (hO6.mono (Nat.le_succ _)))
          have hB6 := HSZ3.out
          clear hnow6 hsw6 hJ6 hO6 hK6 d0 d1 d2 hf1 c0 c1 x0 x1 x2 hyy HSET HSW3 HO3 HSZ3 HR HSW2 HW2 HO2 HJ2
          gi_wp2
          go_roundw
          case rel =>
            refine ⟨k + 1, by omega, by go_num, ?_, ?_, ?_, ?_⟩
            · rw [HST.out.1]; exact (HJ.out _).grow HJ6.out (set3_grown _ _ _) ⟨Nat.le_refl _, Nat.le_refl _⟩
            · rw [set3_size]; omega
            · exact HO6.out.trans ⟨by simp, fun q hq _ => set3_other (by omega) _ _ _⟩
            · rw [HST.out.2.1, HST.out.2.2]; exact set3 HN6.out _ _ _
          case measure => first | (simp [intOf]; done) | (simp [intOf]; omega)
        · gi_wp2
          refine bodyPost_ret (results_none rfl _ _ _) rfl ?_
          exact ⟨⟨_, rfl⟩, .inr ⟨_, HPRE.out, hJx6⟩⟩
    · have hke : k = len := by omega
      subst hke
      have hnl : ¬ ((k : Int) < k) := by omega
      obtain ⟨nb, hnb⟩ : ∃ z, begOf L k = z := ⟨_, rfl⟩
      obtain ⟨nd, hnd⟩ : ∃ z, bndOf L k = z := ⟨_, rfl⟩
      have hst : stsOf L k ++ [⟨nb, 1440, nd⟩] = strs L k := by rw [← hnb, ← hnd]; rfl
      have hpre : stsOf L k ++ [⟨nb, 1440, nd⟩] <+: strs L k := by rw [hst]; exact List.prefix_refl _
      rw [hnb, hnd] at hnow
      obtain ⟨x0, x1, x2⟩ := cells3 hnow
      have hf1 := frozen_of_row _ B 1 _ _ hnow
      have hset : (wr.setCell ⟨B, 1, none⟩ (.int .i64 1440)).heap[B]? = some (.cells #[.int .i64 nb, .int .i64 1440, .int .i64 nd] 106 (0, 0)) := heap_setCell_same wr B 1 _ _ _ hnow
      obtain ⟨d0, d1, d2⟩ := cells3 hset
      have hJ3 : J (stsOf L k) (wr.setCell ⟨B, 1, none⟩ (.int .i64 1440)) := (HJ.out _).grow HJS.out (set_grown _ B 1 _) ⟨Nat.le_refl _, Nat.le_refl _⟩
      have hsz3 : B < (wr.setCell ⟨B, 1, none⟩ (.int .i64 1440)).heap.size := by rw [World.size_setCell]; exact hBw
      obtain ⟨fn, tmps, assign, body, hyy, hR⟩ := HY.out (stsOf L k) ⟨nb, 1440, nd⟩ _ hpre hsz3 hJ3
      unfold encS at hyy
      have HR := Lib.hid hR
      have HST := Lib.hid hst
      clear hR hset hst hpre hJ3 hnb hnd hnow
      gi_wp2
      refine HR.out.mono ?_
      rintro e W6 (⟨rfl, hJ6, hO6, hK6⟩ | ⟨rfl, hJx6⟩)
      · clear hO6 hK6 x0 x1 x2 d0 d1 d2 hf1
        rw [HST.out] at hJ6
        have HJ6 := Lib.hid hJ6
        clear hJ6
        gi_wp2
        go_end0
        exact ⟨⟨_, rfl⟩, .inl HJ6.out⟩
      · clear x0 x1 x2 d0 d1 d2 hf1
        rw [HST.out] at hJx6
        have HJ6 := Lib.hid hJx6
        clear hJx6
        gi_wp2
        go_end0
        exact ⟨⟨_, rfl⟩, .inr ⟨_, List.prefix_refl _, HJ6.out⟩⟩
theorem stretchesOf_in (n : Nat) (a : Option Addr) (len cap : Nat) (w : World) :
    CallsIn Fence.wide n Tryd.prog 66 #[.slice a len cap] w fun e w' => e = .returned (.func (.func 81) #[] #[.pointer (some ⟨w.heap.size, 0, none⟩)]) ∧ w' = w.alloc (.cells #[.slice a len cap] 77) := by
  refine callsIn_of_wp Tryd.func66 rfl trivial ?_ rfl
  simp only [Tryd.ntmps66, List.size_toArray, List.length_cons, List.length_nil, Nat.reduceAdd, Nat.reduceSub, Array.replicate_succ, Array.replicate_zero, List.push_toArray, List.append_toArray, List.nil_append, List.cons_append]
  gi_wp2
  go_ret
  exact ⟨rfl, rfl⟩
theorem str_seq (n : Nat) (hn : 1 ≤ n) (Bp n₀ : Nat) (a : Option Addr) (len cap : Nat) (L : Nat → Sw) (hp : PlanIs L len) (S : Nat → Prop) (w : World) (hS : ∀ j, S j → n₀ ≤ j ∧ j ≠ Bp ∧ j < w.heap.size) (hn0 : n₀ ≤ w.heap.size)
    (hbx : w.heap[Bp]? = some (.cells #[.slice a len cap] 77 (0, 0))) (hA : SwsAt n₀ w a len L) :
    SeqOwn 76 n Tryd.prog 81 #[.pointer (some ⟨Bp, 0, none⟩)] encS S (strs L len) w := by
  intro l J Jx W hW hJ hY h0
  exact str1_in n hn l Bp n₀ a len cap L hp S (fun j hj => ⟨(hS j hj).1, (hS j hj).2.1⟩) W (fun j hj => Nat.lt_of_lt_of_le (hS j hj).2.2 hW.size) (Nat.le_trans hn0 hW.size) ((hW.block Bp (Array.getElem?_eq_some_iff.1 hbx).1).trans hbx) (hA.next hW hn0 (Nat.le_refl _)) J Jx hJ hY h0
end Go.Proofs.YtbffmobjiiicoaaDoor.B9
end
section
/- A scope (a function with a label) under a fence: as the library has it without one. -/
set_option linter.unusedVariables false
namespace Go.Proofs.YtbffmobjiiicoaaDoor.B9
section
variable {F : Fence} {n : Nat} {P : Program} {Q : Exit → Act → World → Prop} {a : Act} {w : World} {b : Frame} {k : List Item} {cs : List Frame}
theorem stepR_scope {c : Code} : step P (lone (b.atR a (.code (.scope c) :: k)) cs w) = .next (lone (b.atR a (.code c :: .inScope c :: k)) cs w) :=
  step_lone_go (by simp [stepG, stepG.exec, Frame.atR])
theorem stepR_inScope {c : Code} : step P (lone (b.atR a (.inScope c :: k)) cs w) = .next (lone (b.atR a k) cs w) :=
  step_lone_go (by simp [stepG, stepG.exec, Frame.atR])
theorem wpIn_scope_straight {c : Code} (h : c.wpIn F n P (Exit.noGoto Q) a w) : (Code.scope c).wpIn F n P Q a w := by
  intro b k cs hro hb hr
  have h0 : (lone (b.atR a (.code (.scope c) :: k)) cs w).fenced P F := fenced_calm hb hr rfl
  obtain ⟨e, a₁, w₁, hq, harr⟩ := h b (.inScope c :: k) cs hro hb hr
  cases e with
  | normal => exact ⟨.normal, a₁, w₁, hq, .head h0 stepR_scope (StepsIn.trans harr (.one (fenced_calm hb hr rfl) stepR_inScope))⟩
  | exit id =>
    have hx : exitTo id (.inScope c :: k) = exitTo id k := by simp [exitTo]
    exact ⟨_, a₁, w₁, hq, fun k' hk => .head h0 stepR_scope (harr.1 k' (by rw [hx]; exact hk)),
      fun hr' hk => let ⟨k₁, h1, h2⟩ := harr.2 hr' (by rw [hx]; exact hk); ⟨k₁, h1, .head h0 stepR_scope h2⟩⟩
  | goto l => exact hq.elim
  | ret => exact ⟨_, a₁, w₁, hq, .of_steps (.one h0 stepR_scope) harr⟩
  | panic ch => exact ⟨_, a₁, w₁, hq, .of_steps (.one h0 stepR_scope) harr⟩
  | outgrown => exact ⟨_, a₁, w₁, hq, .of_steps (.one h0 stepR_scope) harr⟩
end
end Go.Proofs.YtbffmobjiiicoaaDoor.B9
end
section
/- The contract of stretchAt. -/
set_option linter.unusedVariables false
set_option linter.unusedSimpArgs false
namespace Go.Proofs.YtbffmobjiiicoaaDoor.B9
open Go.RowKit Go.Shelf
attribute [local go_sem] Oper.semAt_some
theorem results_sa {s : St} {ok : Bool} {b : Nat} {tmps : Array Value} {w : World} (h2 : tmps.getD 4 undef = .pointer (some ⟨b, 0, none⟩)) (h3 : tmps.getD 5 undef = .bool ok)
    (hb : w.heap[b]? = some (.cells (stC s) 106 (0, 0))) : (results Tryd.f45 tmps).run Tryd.prog w = .ok (.tuple #[stV s, .bool ok]) w := by
  obtain ⟨c0, c1, c2⟩ := cells3 hb
  simp only [Array.getD_eq_getD_getElem?] at h2 h3
  simp [results, Tryd.results45, go_sem, h2, h3, c0, c1, c2]
/-- No stretch of these ends behind the minute. -/
def NoEnd (x : Int) (pre : List St) : Prop := ∀ z ∈ pre, ¬ x < z.e
theorem NoEnd.snoc {x : Int} {pre : List St} {z : St} (h : NoEnd x pre) (hz : ¬ x < z.e) : NoEnd x (pre ++ [z]) := by
  intro q hq
  rcases List.mem_append.1 hq with h' | h'
  · exact h q h'
  · rw [List.mem_singleton.1 h']; exact hz
/-- The stretch that has the minute. -/
def HitIs (L : Nat → Sw) (len : Nat) (x : Int) (s : St) : Prop := s.d = bandN L len x ∧ (s.e = 1440 → BNext L len x 0 false) ∧ (s.e ≠ 1440 → BNext L len x s.e true)
/-- How the search ends. -/
def StopS (x : Int) (bf : Nat) (pre : List St) (W : World) : Prop :=
  ∃ (q : List St) (s : St), pre = q ++ [s] ∧ NoEnd x q ∧ x < s.e ∧ W.heap[bf]? = some (.cells (stC s) 106 (0, 0))
def HitE (L : Nat → Sw) (len : Nat) (x : Int) (e : Ending) : Prop := ∃ s, HitIs L len x s ∧ e = .returned (.tuple #[stV s, .bool true])
set_option maxRecDepth 100000 in
set_option maxHeartbeats 4000000 in
theorem stretchAt_no (a : Option Addr) (len cap : Nat) (L : Nat → Sw) (x : Int) (w : World) (hA : SwsAt w.heap.size w a len L) (hlm : len ≤ maxLen) (hno : ¬ (PlanIs L len ∧ InDay x)) :
    Calls Tryd.prog 45 #[.slice a len cap, .int .i64 x] w fun e w' => e = .returned (.tuple #[stV ⟨0, 0, 0⟩, .bool false]) ∧ Below w.heap.size w w' := by
  have hb0 := ((Below.refl _ w).alloc (Nat.le_refl _) (.cells #[.int .i64 x] 3)).alloc (by simp) (.cells #[.int .i64 0, .int .i64 0, .int .i64 0] 106)
  have hzx := heap_old (heap_alloc_new w (.cells #[.int .i64 x] 3)) (.cells #[.int .i64 0, .int .i64 0, .int .i64 0] 106)
  have hzr := heap_alloc_new (w.alloc (.cells #[.int .i64 x] 3)) (.cells #[.int .i64 0, .int .i64 0, .int .i64 0] 106)
  rw [World.size_alloc] at hzr
  have hsz : ((w.alloc (.cells #[.int .i64 x] 3)).alloc (.cells #[.int .i64 0, .int .i64 0, .int .i64 0] 106)).heap.size = w.heap.size + 2 := by simp [World.size_alloc]
  have HCK := Lib.hid (checkPlan_any a len cap L _ ((hA.next hb0 (Nat.le_refl _) (Nat.le_refl _)).mono hb0.size) hlm)
  have HB0 := Lib.hid hb0
  have HZX := Lib.hid hzx
  have HZR := Lib.hid hzr
  have HSZ := Lib.hid hsz
  have HN := Lib.hid hno
  clear hb0 hzx hzr hsz hA hlm hno
  refine (callsIn_wide (n := 4)).1 ?_
  refine callsIn_of_wp_marks Tryd.func45 rfl trivial ?_ rfl
  simp only [Tryd.ntmps45, List.size_toArray, List.length_cons, List.length_nil, Nat.reduceAdd, Nat.reduceSub, Array.replicate_succ, Array.replicate_zero, List.push_toArray, List.append_toArray, List.nil_append, List.cons_append]
  gi_wp2
  refine wpIn_scope_straight (wpIn_seq ?_)
  gi_wp2_with fail
  refine ⟨trivial, ?_⟩
  refine (callsIn_wide.2 HCK.out).mono ?_
  rintro e w1 ⟨rfl, hB1⟩
  have hs1 := hB1.size
  rw [HSZ.out] at hs1
  have zx1 := (hB1.block w.heap.size (by rw [HSZ.out]; omega)).trans HZX.out
  have zr1 := (hB1.block (w.heap.size + 1) (by rw [HSZ.out]; omega)).trans HZR.out
  have hb1 := HB0.out.trans (hB1.mono HB0.out.size)
  have x0 : w1.cell? ⟨w.heap.size, 0, none⟩ = some (.int .i64 x) := cell_of_row _ _ 0 _ _ _ zx1
  obtain ⟨r0, r1, r2⟩ := cells3 zr1
  obtain ⟨f0, f1, f2⟩ := frozen3 zr1
  have HR := Lib.hid zr1
  have HB1 := Lib.hid hb1
  clear zx1 zr1 hb1 hB1 HZX HZR HB0
  by_cases hp : PlanIs L len
  · have HF := Lib.hid (isFrom_no (n := x) (a := 0) (b := 1439) (fun h => HN.out ⟨hp, h⟩) w1)
    rw [pErr_yes hp]
    clear hp
    gi_wp2_with (refine ⟨trivial, ?_⟩; gi_at_call 42; refine (callsIn_wide.2 HF.out).mono ?_; rintro e w' ⟨rfl, rfl⟩; clear HF)
    rw [Exit.noGoto_ret]
    refine ⟨_, results_sa (s := ⟨0, 0, 0⟩) (ok := false) rfl rfl (set3 HR.out _ _ _), rfl, set3_below HB1.out (by omega) _ _ _⟩
  · rw [pErr_no hp]
    clear hp
    gi_wp2
    refine ⟨trivial, ?_⟩
    gi_wp2
    rw [Exit.noGoto_ret]
    refine ⟨_, results_sa (s := ⟨0, 0, 0⟩) (ok := false) rfl rfl (set3 HR.out _ _ _), rfl, set3_below HB1.out (by omega) _ _ _⟩
set_option maxRecDepth 100000 in
set_option maxHeartbeats 4000000 in
theorem stretchAt_yes (a : Option Addr) (len cap : Nat) (L : Nat → Sw) (x : Int) (w : World) (hA : SwsAt w.heap.size w a len L) (hlm : len ≤ maxLen) (hp : PlanIs L len) (hd : InDay x) :
    Calls Tryd.prog 45 #[.slice a len cap, .int .i64 x] w fun e w' => HitE L len x e ∧ Below w.heap.size w w' := by
  have hb0 := ((Below.refl _ w).alloc (Nat.le_refl _) (.cells #[.int .i64 x] 3)).alloc (by simp) (.cells #[.int .i64 0, .int .i64 0, .int .i64 0] 106)
  have hzx := heap_old (heap_alloc_new w (.cells #[.int .i64 x] 3)) (.cells #[.int .i64 0, .int .i64 0, .int .i64 0] 106)
  have hzr := heap_alloc_new (w.alloc (.cells #[.int .i64 x] 3)) (.cells #[.int .i64 0, .int .i64 0, .int .i64 0] 106)
  rw [World.size_alloc] at hzr
  have hsz : ((w.alloc (.cells #[.int .i64 x] 3)).alloc (.cells #[.int .i64 0, .int .i64 0, .int .i64 0] 106)).heap.size = w.heap.size + 2 := by simp [World.size_alloc]
  have hck := checkPlan_any a len cap L _ ((hA.next hb0 (Nat.le_refl _) (Nat.le_refl _)).mono hb0.size) hlm
  rw [pErr_yes hp] at hck
  have HCK := Lib.hid hck
  have hd0 := hd.1
  have hd1 := hd.2
  have HF := Lib.hid (fun W : World => isFrom_yes (n := x) (a := 0) (b := 1439) hd W)
  have HB0 := Lib.hid hb0
  have HZX := Lib.hid hzx
  have HZR := Lib.hid hzr
  have HSZ := Lib.hid hsz
  have HA := Lib.hid hA
  have HP := Lib.hid hp
  clear hb0 hzx hzr hsz hA hlm hck hp hd
  refine (callsIn_wide (n := 4)).1 ?_
  refine callsIn_of_wp_marks Tryd.func45 rfl trivial ?_ rfl
  simp only [Tryd.ntmps45, List.size_toArray, List.length_cons, List.length_nil, Nat.reduceAdd, Nat.reduceSub, Array.replicate_succ, Array.replicate_zero, List.push_toArray, List.append_toArray, List.nil_append, List.cons_append]
  gi_wp2
  refine wpIn_scope_straight (wpIn_seq ?_)
  gi_wp2_with fail
  refine ⟨trivial, ?_⟩
  refine (callsIn_wide.2 HCK.out).mono ?_
  rintro e w1 ⟨rfl, hB1⟩
  have hs1 := hB1.size
  rw [HSZ.out] at hs1
  have zx1 := (hB1.block w.heap.size (by rw [HSZ.out]; omega)).trans HZX.out
  have zr1 := (hB1.block (w.heap.size + 1) (by rw [HSZ.out]; omega)).trans HZR.out
  have hb1 := HB0.out.trans (hB1.mono HB0.out.size)
  have x0 : w1.cell? ⟨w.heap.size, 0, none⟩ = some (.int .i64 x) := cell_of_row _ _ 0 _ _ _ zx1
  have HR := Lib.hid zr1
  have HX := Lib.hid zx1
  have HB1 := Lib.hid hb1
  clear zr1 zx1 hb1 hB1 HZX HZR HB0 HCK
  gi_wp2_with (refine ⟨trivial, ?_⟩; gi_at_call 42; refine (callsIn_wide.2 (HF.out _)).mono ?_; rintro e w' ⟨rfl, rfl⟩; clear HF)
  refine wpIn_label ?_
  gi_wp2_with (refine ⟨trivial, ?_⟩; gi_at_call 66; refine (stretchesOf_in _ _ _ _ _).mono ?_; rintro e w' ⟨rfl, rfl⟩)
  have xx := heap_old (heap_old HX.out (.cells #[.int .i64 0, .int .i64 0, .int .i64 0] 106)) (.cells #[.slice a len cap] 77)
  have xr := heap_old (heap_old HR.out (.cells #[.int .i64 0, .int .i64 0, .int .i64 0] 106)) (.cells #[.slice a len cap] 77)
  have xf := heap_old (heap_alloc_new w1 (.cells #[.int .i64 0, .int .i64 0, .int .i64 0] 106)) (.cells #[.slice a len cap] 77)
  have xb := heap_alloc_new (w1.alloc (.cells #[.int .i64 0, .int .i64 0, .int .i64 0] 106)) (.cells #[.slice a len cap] 77)
  rw [World.size_alloc] at xb
  have xsz : ((w1.alloc (.cells #[.int .i64 0, .int .i64 0, .int .i64 0] 106)).alloc (.cells #[.slice a len cap] 77)).heap.size = w1.heap.size + 2 := by simp [World.size_alloc]
  have xw : Below w.heap.size w ((w1.alloc (.cells #[.int .i64 0, .int .i64 0, .int .i64 0] 106)).alloc (.cells #[.slice a len cap] 77)) := (HB1.out.alloc HB1.out.size _).alloc (by have := HB1.out.size; simp; omega) _
  obtain ⟨X, hX⟩ : ∃ X, (w1.alloc (.cells #[.int .i64 0, .int .i64 0, .int .i64 0] 106)).alloc (.cells #[.slice a len cap] 77) = X := ⟨_, rfl⟩
  rw [hX] at xx xr xf xb xsz xw ⊢
  have hA2 : SwsAt w.heap.size X a len L := HA.out.next xw (Nat.le_refl _) (Nat.le_refl _)
  clear hX x0 HX HR HB1
  refine wpIn_rangeFunc_mine (gf := 81) (lb := #[.pointer (some ⟨w1.heap.size + 1, 0, none⟩)]) rfl (enters_of Tryd.func81 (by kernel_rfl) rfl)
    (strs L len) encS (fun j => j = w1.heap.size) 0 76
    (str_seq (4 - 1) (by omega) (w1.heap.size + 1) w.heap.size a len cap L HP.out _ X (fun j hj => ⟨by omega, by omega, by omega⟩) xw.size xb hA2) (fun _ => rfl) (fun j hj => by omega)
    (fun pre W => (W.heap[w.heap.size]? = some (.cells #[.int .i64 x] 3 (0, 0)) ∧ W.heap[w.heap.size + 1]? = some (.cells (stC ⟨0, 0, 0⟩) 106 (0, 0)) ∧ W.heap[w1.heap.size]? = some (.cells (stC ⟨0, 0, 0⟩) 106 (0, 0)) ∧ NoEnd x pre) ∧ Below w.heap.size w W)
    (fun pre W => (StopS x w1.heap.size pre W ∧ W.heap[w.heap.size + 1]? = some (.cells (stC ⟨0, 0, 0⟩) 106 (0, 0))) ∧ Below w.heap.size w W)
    (fun pre => ((steady_block _ _ _ _ (by omega)).and ((steady_block _ _ _ _ (by omega)).and ((steady_block _ _ _ _ (by omega)).and (steady_pure _ _ _)))).and (steady_below _ _ _ _ (by omega) (Nat.le_refl _)))
    (fun pre => Steady.and (Steady.and (fun X' Y row hs hg hr => let ⟨q, s, e1, e2, e3, e4⟩ := hs; ⟨q, s, e1, e2, e3, steady_block X.heap.size (X.heap.size + 2) _ _ (by omega) X' Y row e4 hg hr⟩) (steady_block _ _ _ _ (by omega))) (steady_below _ _ _ _ (by omega) (Nat.le_refl _)))
    ⟨⟨xx, xr, xf, fun z hz => by cases hz⟩, xw⟩
    (fun pre s a₁ W => ∃ Bx, X.heap.size + 3 ≤ Bx ∧ W.heap[Bx]? = some (.cells (stC s) 106 (0, 0)) ∧ a₁ = { tmps := #[.slice a len cap, .int .i64 x, undef, .pointer (some ⟨w.heap.size, 0, none⟩), .pointer (some ⟨w.heap.size + 1, 0, none⟩), .bool false, .pointer (some ⟨w1.heap.size, 0, none⟩), .pointer (some ⟨Bx, 0, none⟩), .slice a len cap, .int .i64 0, .bool false, .bool false, .int .i64 x, .bool true, .bool false, .bool false, undef, .slice a len cap, .func (.func 81) #[] #[.pointer (some ⟨w1.heap.size + 1, 0, none⟩)], stV s, undef, undef, undef, undef, undef, undef], defers := [] })
    (fun pre s a₁ X' Y row hs hg hr => let ⟨Bx, e1, e2, e3⟩ := hs; ⟨Bx, e1, steady_block X.heap.size (X.heap.size + 2) _ _ (by omega) X' Y row e2 hg hr, e3⟩)
    ?assign ?body ?done ?stop
  case assign =>
    intro l pre s W K hsz hpre hI hK
    unfold encS
    gi_wp2
    refine hK _ _ ((Only.refl _ _ _).alloc hsz _) ((KT.refl _ _).alloc _) ⟨⟨heap_old hI.1.1 _, heap_old hI.1.2.1 _, heap_old hI.1.2.2.1 _, hI.1.2.2.2⟩, hI.2.alloc hI.2.size _⟩ ⟨W.heap.size, hsz, heap_alloc_new W _, rfl⟩
  case body =>
    rintro l pre s a₁ W hsz hpre ⟨⟨ix, ir, if0, hno⟩, hB⟩ ⟨Bx, hBx, hbx, rfl⟩
    obtain ⟨sb, se, sd⟩ := s
    have c0 : W.cell? ⟨w.heap.size, 0, none⟩ = some (.int .i64 x) := cell_of_row _ _ 0 _ _ _ ix
    obtain ⟨k0, k1, k2⟩ := cells3 hbx
    obtain ⟨j0, j1, j2⟩ := cells3 if0
    obtain ⟨f0, f1, f2⟩ := frozen3 if0
    have HIX := Lib.hid ix
    have HIR := Lib.hid ir
    have HIF := Lib.hid if0
    have HNO := Lib.hid hno
    have HB := Lib.hid hB
    clear ix ir if0 hno hB hbx xx xr xf xb xw hA2
    by_cases hlt : x < se
    · gi_wp2
      refine ⟨rfl, ?_, ⟨⟨pre, ⟨sb, se, sd⟩, rfl, HNO.out, hlt, set3 HIF.out _ _ _⟩, (set3_other (by omega) _ _ _).trans HIR.out⟩, set3_below HB.out (by omega) _ _ _⟩
      exact ⟨by simp, fun k hk hs => set3_other hs _ _ _⟩
    · gi_wp2
      exact ⟨Only.refl _ _ _, KT.refl _ _, ⟨HIX.out, HIR.out, HIF.out, HNO.out.snoc (by show ¬ x < se; omega)⟩, HB.out⟩
  case done =>
    rintro D W hD ⟨⟨ix, ir, if0, hno⟩, hB⟩ hK
    exact (strs_last L len x (by omega) hno).elim
  case stop =>
    rintro D pre W hD hpre ⟨⟨⟨q, s, rfl, hno, hlt, hf⟩, hr⟩, hB⟩ hK
    have hhit := strs_hit HP.out hpre hd0 hno hlt
    obtain ⟨sb, se, sd⟩ := s
    obtain ⟨k0, k1, k2⟩ := cells3 hf
    obtain ⟨j0, j1, j2⟩ := cells3 hr
    obtain ⟨f0, f1, f2⟩ := frozen3 hr
    have HR2 := Lib.hid hr
    have HB := Lib.hid hB
    have HK := Lib.hid hK
    have HH := Lib.hid (show HitIs L len x ⟨sb, se, sd⟩ from hhit)
    have HXS := Lib.hid xw.size
    clear hf hr hB hK hhit hno hpre xx xr xf xb xw hA2
    gi_wp2
    have hset := set3 HR2.out (.int .i64 sb) (.int .i64 se) (.int .i64 sd)
    have hk2 := (set3_other (Z := W) (B := w.heap.size + 1) (C := D) (by omega) (.int .i64 sb) (.int .i64 se) (.int .i64 sd)).trans HK.out
    refine ⟨by simp, .inl ⟨_, _, rfl, run_takeDeferred hk2, ?_⟩⟩
    refine ⟨_, results_sa (s := ⟨sb, se, sd⟩) (ok := true) rfl rfl ((World.putObj_heap_other (by omega)).trans hset), ⟨_, HH.out, rfl⟩, ?_⟩
    exact (set3_below HB.out (by omega) _ _ _).trans (belowK_b (w := w) (Nat.le_refl _) _ D _ _ (by omega) hk2 rfl rfl)
end Go.Proofs.YtbffmobjiiicoaaDoor.B9
end
section
/- The program's Band and Next. -/
set_option linter.unusedVariables false
set_option linter.unusedSimpArgs false
namespace Go.Proofs.YtbffmobjiiicoaaDoor.B9
open Go.RowKit Go.Shelf
theorem band_no (a : Option Addr) (len cap : Nat) (L : Nat → Sw) (x : Int) (w : World) (hA : SwsAt w.heap.size w a len L) (hlm : len ≤ maxLen) (hno : ¬ (PlanIs L len ∧ InDay x)) :
    Calls Tryd.prog 21 #[.slice a len cap, .int .i64 x] w fun e w' => e = .returned (.tuple #[.int .i64 0, .bool false]) ∧ Below w.heap.size w w' := by
  have HC := Lib.hid (stretchAt_no a len cap L x w hA hlm hno)
  clear hA hlm hno
  go_enter Tryd.func21, Tryd.ntmps21
  go_wp2_with fail
  refine HC.out.mono ?_
  rintro e w1 ⟨rfl, hB⟩
  have HB := Lib.hid hB
  clear hB
  go_wp2
  go_ret2
  exact ⟨rfl, HB.out.alloc HB.out.size _⟩
theorem band_yes (a : Option Addr) (len cap : Nat) (L : Nat → Sw) (x : Int) (w : World) (hA : SwsAt w.heap.size w a len L) (hlm : len ≤ maxLen) (hp : PlanIs L len) (hd : InDay x) :
    Calls Tryd.prog 21 #[.slice a len cap, .int .i64 x] w fun e w' => e = .returned (.tuple #[.int .i64 (bandN L len x), .bool true]) ∧ Below w.heap.size w w' := by
  have HC := Lib.hid (stretchAt_yes a len cap L x w hA hlm hp hd)
  clear hA hlm hp hd
  go_enter Tryd.func21, Tryd.ntmps21
  go_wp2_with fail
  refine HC.out.mono ?_
  rintro e w1 ⟨⟨⟨sb, se, sd⟩, hs, rfl⟩, hB⟩
  have HB := Lib.hid hB
  have HS := Lib.hid (show sd = bandN L len x from hs.1)
  clear hB hs
  go_wp2
  go_ret2
  rw [HS.out]
  exact ⟨rfl, HB.out.alloc HB.out.size _⟩
def NextE (L : Nat → Sw) (len : Nat) (x : Int) (e : Ending) : Prop := ∃ n is, BNext L len x n is ∧ e = .returned (.tuple #[.int .i64 n, .bool is])
end Go.Proofs.YtbffmobjiiicoaaDoor.B9
end
