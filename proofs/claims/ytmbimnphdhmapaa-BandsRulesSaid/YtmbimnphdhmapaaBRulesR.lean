/- Two regions of the statement BandsRules that draw their order and make memory. -/
import Derived.Test.YtmbimnphdhmapaaBOwnR
import Derived.Test.YtmbimnphdhmapaaBRegL
import Derived.Test.YtmbimnphdhmapaaBTabC
set_option linter.unusedVariables false
set_option linter.unusedSimpArgs false
namespace Go.Proofs.Ytmbimnphdhmapaa
open Go.RowKit Go.Shelf
section
variable {P : Program} {md : Region.Mode} {ops : Array Oper} {Q : Exit → Act → World → Prop} {S : World → Prop} {z : Nat}
/-- The three operations that may come up. -/
theorem threeL {i j k : Nat} {o o' o'' : Oper} {m : Nat} {listed : Array Bool} {a : Act} {w : World} (hi : ops[i]? = some o) (hj : ops[j]? = some o') (hk : ops[k]? = some o'') (hr : Region.ready md ops listed = [i, j, k]) (hg : o.guard = none) (hg' : o'.guard = none) (hg'' : o''.guard = none)
    (h : o.wp P a w (fun a' w' => (i ≠ z → S w') ∧ AnyL P md ops Q S z m (listed.setIfInBounds i true) a' w') Q) (h' : o'.wp P a w (fun a' w' => (j ≠ z → S w') ∧ AnyL P md ops Q S z m (listed.setIfInBounds j true) a' w') Q)
    (h'' : o''.wp P a w (fun a' w' => (k ≠ z → S w') ∧ AnyL P md ops Q S z m (listed.setIfInBounds k true) a' w') Q) : AnyL P md ops Q S z (m + 1) listed a w := by
  refine ⟨fun h0 => (by rw [hr] at h0; cases h0), fun l hl => ?_⟩
  rw [hr] at hl
  rcases (by simpa using hl : l = i ∨ l = j ∨ l = k) with rfl | rfl | rfl
  · unfold wpOp
    simp only [hi]
    rw [if_pos (by simp [Region.wanted, hg])]
    exact .inl h
  · unfold wpOp
    simp only [hj]
    rw [if_pos (by simp [Region.wanted, hg'])]
    exact .inl h'
  · unfold wpOp
    simp only [hk]
    rw [if_pos (by simp [Region.wanted, hg''])]
    exact .inl h''
end
theorem OwnR.heap {base : Nat} {w : World} {v : Value} {xs : List Ru} (h : OwnR base w v xs) : ∀ k, v.ownBlock = some k → ∃ cs, w.heap[k]? = some (.cells cs 48 (0, 0)) := by
  intro k hk
  rcases h.2 with ⟨rfl, e⟩ | ⟨g, cap, cur, rfl, hg, hh, _⟩
  · simp [Value.ownBlock] at hk
  · simp [Value.ownBlock] at hk; subst hk; exact ⟨_, hh⟩
/-- Appending the rules of a table that came in, or of none, in a region that draws its order. -/
theorem wpR_src {w : World} {o : Oper} {a : Act} {K : Act → World → Prop} {Q : Exit → Act → World → Prop} (hgd : o.guard = none) (s x : Operand)
    (ho : o.op = .call { callee := .builtin .append, args := #[s, x], argTypes := #[39, 39] })
    (base : Nat) (v : Value) (ls : List Ru) (hs : a.eval s = v) (hown : OwnR base w v ls) (ra : Option Addr) (rl rc : Nat) (R : Nat → Ru) (hx : a.eval x = .slice ra rl rc) (hn : ra = none → rl = 0 ∧ rc = 0) {B : Nat} (hR : RusAt B w ra rl R)
    (N : Nat) (hN : ls.length + rl = N) (hlen : ls.length + rl ≤ 1000000) (hbase : base ≤ w.heap.size)
    (h : ∀ a' c' w', OwnR base w' (.slice a' N c') (ls ++ (List.range rl).map R) → w.grownBy w' v.ownBlock → K (a.put o.dst (.slice a' N c')) w') :
    o.wp Try.prog a w K Q := by
  have hl : (ls ++ (List.range rl).map R).length = N := by simp [hN]
  cases ra with
  | none =>
    obtain ⟨rfl, rfl⟩ := hn rfl
    obtain ⟨i, hi, hzz, hsz, hby⟩ := partsOwnR
    have hr := run_append_owned_none (P := Try.prog) w base _ o.type 48 i 3 Try.underlying39 hi v ls.length (valsR ls) hown
    obtain ⟨a', c', rfl⟩ := hown.form
    have hk := h a' c' w (by rw [← hN]; simpa using hown) ⟨rfl, rfl, rfl, Nat.le_refl _, fun _ _ _ => rfl⟩
    rw [← hN] at hk
    unfold Oper.wp
    simp [execOp, ho, resolve, invoke, builtin, hs, hx, hr, Result.andThen, Oper.upon]
    simpa using hk
  | some ad =>
    refine wpR_OwnR hgd s x ho base v ls hs hown ad rl rc ((List.range rl).map R) hx (by simp) ?_ hlen hbase ?_
    · intro j u hj
      have h0 : 0 < rl := by
        rcases Nat.eq_zero_or_pos rl with e | e
        · rw [e] at hj; simp [valsR] at hj
        · exact e
      obtain ⟨b, o2, e, _⟩ := hR 0 h0
      cases e
      refine valsR_cells (fun i hi => ?_) j u hj
      obtain ⟨b', o', e, _, h0, h1, h2⟩ := hR i hi
      cases e
      exact ⟨h0, h1, h2⟩
    · rw [hl]
      exact h
/-- What stands behind some of the operations that make memory. -/
structure RS (B0 : Nat) (W0 X : World) (l5 l8 : List Ru) (al : Ru) (s2 : Option Nat) (s5 : Option Value) (s7 s10 : Option Nat) (s8 : Option Value) : Prop where
  below : Below B0 W0 X
  size : B0 ≤ X.heap.size
  h2 : ∀ g, s2 = some g → B0 ≤ g ∧ X.heap[g]? = some (.cells #[] 48 (0, 0))
  h5 : ∀ v, s5 = some v → OwnR B0 X v l5
  h7 : ∀ g, s7 = some g → B0 ≤ g ∧ X.heap[g]? = some (.cells #[.int .i64 al.s, .int .i64 al.k, .int .i64 al.p] 48 (0, 0))
  h10 : ∀ g, s10 = some g → B0 ≤ g ∧ X.heap[g]? = some (.cells #[.slice none 0 0, .slice none 0 0] 41 (0, 0))
  h8 : ∀ v, s8 = some v → OwnR B0 X v l8
section
variable {B0 : Nat} {W0 X : World} {l5 l8 : List Ru} {al : Ru} {s2 : Option Nat} {s5 : Option Value} {s7 s10 : Option Nat} {s8 : Option Value}
theorem RS.alloc (h : RS B0 W0 X l5 l8 al s2 s5 s7 s10 s8) (o : Obj) : RS B0 W0 (X.alloc o) l5 l8 al s2 s5 s7 s10 s8 :=
  ⟨h.below.trans ((Below.refl B0 X).alloc h.size o), by have := h.size; simp; omega, fun g e => ⟨(h.h2 g e).1, heap_old (h.h2 g e).2 _⟩, fun v e => (h.h5 v e).kept (fun k hk => Below.heap_alloc X o k ((h.h5 v e).row k hk).2),
    fun g e => ⟨(h.h7 g e).1, heap_old (h.h7 g e).2 _⟩, fun g e => ⟨(h.h10 g e).1, heap_old (h.h10 g e).2 _⟩, fun v e => (h.h8 v e).kept (fun k hk => Below.heap_alloc X o k ((h.h8 v e).row k hk).2)⟩
theorem RS.two (h : RS B0 W0 X l5 l8 al s2 s5 s7 s10 s8) : RS B0 W0 (X.alloc (.cells #[] 48)) l5 l8 al (some X.heap.size) s5 s7 s10 s8 :=
  { h.alloc (.cells #[] 48) with h2 := fun g e => by cases e; exact ⟨h.size, heap_alloc_new X _⟩ }
theorem RS.seven (h : RS B0 W0 X l5 l8 al s2 s5 s7 s10 s8) : RS B0 W0 (X.alloc (.cells #[.int .i64 al.s, .int .i64 al.k, .int .i64 al.p] 48)) l5 l8 al s2 s5 (some X.heap.size) s10 s8 :=
  { h.alloc (.cells #[.int .i64 al.s, .int .i64 al.k, .int .i64 al.p] 48) with h7 := fun g e => by cases e; exact ⟨h.size, heap_alloc_new X _⟩ }
theorem RS.ten (h : RS B0 W0 X l5 l8 al s2 s5 s7 s10 s8) : RS B0 W0 (X.alloc (.cells #[.slice none 0 0, .slice none 0 0] 41)) l5 l8 al s2 s5 s7 (some X.heap.size) s8 :=
  { h.alloc (.cells #[.slice none 0 0, .slice none 0 0] 41) with h10 := fun g e => by cases e; exact ⟨h.size, heap_alloc_new X _⟩ }
theorem RS.own2 {g : Nat} (h : RS B0 W0 X l5 l8 al (some g) s5 s7 s10 s8) : OwnR B0 X (.slice (some ⟨g, 0, none⟩) 0 0) [] := by
  obtain ⟨h1, h2⟩ := h.h2 g rfl
  exact ⟨by simp [valsR], .inr ⟨g, 0, #[], rfl, h1, h2, Nat.le_refl _, Nat.zero_le _, rfl, by simp [valsR]⟩⟩
theorem RS.own7 {g : Nat} (h : RS B0 W0 X l5 l8 al s2 s5 (some g) s10 s8) : OwnR B0 X (.slice (some ⟨g, 0, none⟩) 1 1) [al] := by
  obtain ⟨h1, h2⟩ := h.h7 g rfl
  exact ⟨by simp [valsR], .inr ⟨g, 1, #[.int .i64 al.s, .int .i64 al.k, .int .i64 al.p], rfl, h1, h2, Nat.le_refl _, by unfold maxLen; omega, rfl, by simp [valsR]⟩⟩
theorem RS.cells7 {g : Nat} (h : RS B0 W0 X l5 l8 al s2 s5 (some g) s10 s8) : ∀ j u, (valsR [al])[j]? = some u → X.cell? ((⟨g, 0, none⟩ : Addr).add j) = some u := by
  obtain ⟨_, h2⟩ := h.h7 g rfl
  intro j u hj
  match j, hj with
  | 0, hj => simp [valsR] at hj; subst hj; simpa [Addr.add] using cell_of_row X g 0 _ _ _ h2
  | 1, hj => simp [valsR] at hj; subst hj; simpa [Addr.add] using cell_of_row X g 1 _ _ _ h2
  | 2, hj => simp [valsR] at hj; subst hj; simpa [Addr.add] using cell_of_row X g 2 _ _ _ h2
  | j + 3, hj => simp [valsR] at hj
theorem RS.five {g : Nat} {X' : World} {v : Value} (h : RS B0 W0 X l5 l8 al (some g) none s7 s10 none) (hG : X.grownBy X' (some g)) (hO : OwnR B0 X' v l5) : RS B0 W0 X' l5 l8 al none (some v) s7 s10 none := by
  obtain ⟨h1, h2⟩ := h.h2 g rfl
  refine ⟨h.below.trans ((Below.refl B0 X).grown hG h.size (fun r e => by cases e; exact h1)), Nat.le_trans h.size hG.size, fun g e => (by cases e), fun v' e => (by cases e; exact hO), fun g' e => ⟨(h.h7 g' e).1, ?_⟩, fun g' e => ⟨(h.h10 g' e).1, ?_⟩, fun v e => (by cases e)⟩
  · have h3 := (h.h7 g' e).2
    exact (hG.block g' (Array.getElem?_eq_some_iff.1 h3).1 (fun q => by cases q; rw [h2] at h3; cases h3)).trans h3
  · have h3 := (h.h10 g' e).2
    exact (hG.block g' (Array.getElem?_eq_some_iff.1 h3).1 (fun q => by cases q; rw [h2] at h3; cases h3)).trans h3
theorem RS.last {X' : World} {v v' : Value} {l : List Ru} (h : RS B0 W0 X l5 l8 al s2 s5 s7 s10 none) (hv : OwnR B0 X v l) (hG : X.grownBy X' v.ownBlock) (hO : OwnR B0 X' v' l8) : RS B0 W0 X' l5 l8 al none none none s10 (some v') := by
  refine ⟨h.below.trans ((Below.refl B0 X).grown hG h.size (fun r e => (hv.row r e).1)), Nat.le_trans h.size hG.size, fun g e => (by cases e), fun v' e => (by cases e), fun g' e => (by cases e), fun g' e => ⟨(h.h10 g' e).1, ?_⟩, fun v e => (by cases e; exact hO)⟩
  have h3 := (h.h10 g' e).2
  refine (hG.block g' (Array.getElem?_eq_some_iff.1 h3).1 (fun q => ?_)).trans h3
  obtain ⟨cs, h4⟩ := hv.heap g' q.symm
  rw [h3] at h4
  injection h4 with h4
  injection h4 with _ h5 _
  exact absurd h5 (by decide)
end
/-- What stands behind the whole region: a table in a block of its own, its rules in a row of their own. -/
def Fin (B0 : Nat) (W0 : World) (pv : Value) (l8 : List Ru) (g : Nat) (v : Value) (W : World) : Prop := B0 ≤ g ∧ W.heap[g]? = some (.cells #[pv, v] 41 (0, 0)) ∧ OwnR B0 W v l8 ∧ Below B0 W0 W
theorem RS.fin {B0 : Nat} {W0 X : World} {l5 l8 : List Ru} {al : Ru} {g : Nat} {v pv : Value} (h : RS B0 W0 X l5 l8 al none none none (some g) (some v)) : Fin B0 W0 pv l8 g v ((X.setCell ⟨g, 0, none⟩ pv).setCell ⟨g, 1, none⟩ v) := by
  obtain ⟨h1, h2⟩ := h.h10 g rfl
  have hO := h.h8 v rfl
  have hne : ∀ k, v.ownBlock = some k → k ≠ g := fun k hk e => by
    obtain ⟨cs, h4⟩ := hO.heap k hk
    rw [e, h2] at h4
    injection h4 with h4
    injection h4 with _ h5 _
    exact absurd h5 (by decide)
  refine ⟨h1, heap_setCell_same _ g 1 _ _ _ (heap_setCell_same _ g 0 _ _ _ h2), hO.kept (fun k hk => ?_), (h.below.setCell (p := ⟨g, 0, none⟩) h1 _).setCell (p := ⟨g, 1, none⟩) h1 _⟩
  exact (heap_setCell_other _ ⟨g, 1, none⟩ k _ (hne k hk)).trans (heap_setCell_other _ ⟨g, 0, none⟩ k _ (hne k hk))
theorem RS.cells10 {B0 : Nat} {W0 X : World} {l5 l8 : List Ru} {al : Ru} {s2 : Option Nat} {s5 : Option Value} {s7 : Option Nat} {s8 : Option Value} {g : Nat} (h : RS B0 W0 X l5 l8 al s2 s5 s7 (some g) s8) : X.cell? ⟨g, 0, none⟩ = some (.slice none 0 0) ∧ X.cell? ⟨g, 1, none⟩ = some (.slice none 0 0) ∧ X.frozen? ⟨g, 0, none⟩ = false ∧ X.frozen? ⟨g, 1, none⟩ = false := by
  obtain ⟨_, hh⟩ := h.h10 g rfl
  exact ⟨cell_of_row _ _ 0 _ _ _ hh, cell_of_row _ _ 1 _ _ _ hh, by simp [World.frozen?, hh], by simp [World.frozen?, hh]⟩
section
variable {B0 : Nat} {W0 X : World} {l5 l8 : List Ru} {al : Ru} {s2 : Option Nat} {s5 : Option Value} {s7 s10 : Option Nat} {s8 : Option Value} {o : Oper} {a : Act} {K : Act → World → Prop} {Q : Exit → Act → World → Prop}
theorem RS.dotwo (h : RS B0 W0 X l5 l8 al s2 s5 s7 s10 s8) (hrun : (execOp a.eval o).run Try.prog X = .ok (.value (.slice (some ⟨X.heap.size, 0, none⟩) 0 0)) (X.alloc (.cells #[] 48)))
    (hk : ∀ g X', RS B0 W0 X' l5 l8 al (some g) s5 s7 s10 s8 → K (a.put o.dst (.slice (some ⟨g, 0, none⟩) 0 0)) X') : o.wp Try.prog a X K Q := wp_by_run hrun (hk _ _ h.two)
theorem RS.doseven (h : RS B0 W0 X l5 l8 al s2 s5 s7 s10 s8) (hrun : (execOp a.eval o).run Try.prog X = .ok (.value (.slice (some ⟨X.heap.size, 0, none⟩) 1 1)) (X.alloc (.cells #[.int .i64 al.s, .int .i64 al.k, .int .i64 al.p] 48)))
    (hk : ∀ g X', RS B0 W0 X' l5 l8 al s2 s5 (some g) s10 s8 → K (a.put o.dst (.slice (some ⟨g, 0, none⟩) 1 1)) X') : o.wp Try.prog a X K Q := wp_by_run hrun (hk _ _ h.seven)
theorem RS.doten (h : RS B0 W0 X l5 l8 al s2 s5 s7 s10 s8) (hrun : (execOp a.eval o).run Try.prog X = .ok (.value (.pointer (some ⟨X.heap.size, 0, none⟩))) (X.alloc (.cells #[.slice none 0 0, .slice none 0 0] 41)))
    (hk : ∀ g X', RS B0 W0 X' l5 l8 al s2 s5 s7 (some g) s8 → K (a.put o.dst (.pointer (some ⟨g, 0, none⟩))) X') : o.wp Try.prog a X K Q := wp_by_run hrun (hk _ _ h.ten)
theorem RS.dofive {g : Nat} {B : Nat} (h : RS B0 W0 X l5 l8 al (some g) none s7 s10 none) (hgd : o.guard = none) (s x : Operand)
    (ho : o.op = .call { callee := .builtin .append, args := #[s, x], argTypes := #[39, 39] }) (hs : a.eval s = .slice (some ⟨g, 0, none⟩) 0 0)
    (ra : Option Addr) (rl rc : Nat) (R' : Nat → Ru) (hx : a.eval x = .slice ra rl rc) (hn : ra = none → rl = 0 ∧ rc = 0) (hR : RusAt B X ra rl R') (h5 : (List.range rl).map R' = l5) (hlen : rl ≤ 1000000)
    (hk : ∀ a' c' X', RS B0 W0 X' l5 l8 al none (some (.slice a' rl c')) s7 s10 none → K (a.put o.dst (.slice a' rl c')) X') : o.wp Try.prog a X K Q := by
  refine wpR_src hgd s x ho B0 _ [] hs h.own2 ra rl rc R' hx hn hR rl (by simp) (by simpa using hlen) h.size ?_
  intro a' c' w' hO hG
  rw [List.nil_append, h5] at hO
  exact hk a' c' w' (h.five hG hO)
theorem RS.doeight {g : Nat} {v : Value} (h : RS B0 W0 X l5 l8 al s2 (some v) (some g) s10 none) (hgd : o.guard = none) (s x : Operand)
    (ho : o.op = .call { callee := .builtin .append, args := #[s, x], argTypes := #[39, 39] }) (hs : a.eval s = v) (hx : a.eval x = .slice (some ⟨g, 0, none⟩) 1 1) (h8 : l5 ++ [al] = l8) (hgd' : True = True)
    (N : Nat) (hN : (l5 ++ [al]).length = N) (hlen : N ≤ 1000000) (hk : ∀ a' c' X', RS B0 W0 X' l5 l8 al none none none s10 (some (.slice a' N c')) → K (a.put o.dst (.slice a' N c')) X') : o.wp Try.prog a X K Q := by
  refine wpR_OwnR hgd s x ho B0 v l5 hs (h.h5 v rfl) ⟨g, 0, none⟩ 1 1 [al] hx rfl h.cells7 (by simp at hN; omega) h.size ?_
  intro a' c' w' hO hG
  rw [hN] at hO ⊢
  rw [h8] at hO
  exact hk a' c' w' (h.last (h.h5 v rfl) hG hO)
theorem RS.dosix {g : Nat} {B : Nat} (h : RS B0 W0 X l5 l8 al s2 s5 (some g) s10 none) (hgd : o.guard = none) (s x : Operand)
    (ho : o.op = .call { callee := .builtin .append, args := #[s, x], argTypes := #[39, 39] }) (hs : a.eval s = .slice (some ⟨g, 0, none⟩) 1 1)
    (ra : Option Addr) (rl rc : Nat) (R' : Nat → Ru) (hx : a.eval x = .slice ra rl rc) (hn : ra = none → rl = 0 ∧ rc = 0) (hR : RusAt B X ra rl R') (h8 : [al] ++ (List.range rl).map R' = l8) (N : Nat) (hN : 1 + rl = N) (hlen : rl ≤ 1000)
    (hk : ∀ a' c' X', RS B0 W0 X' l5 l8 al none none none s10 (some (.slice a' N c')) → K (a.put o.dst (.slice a' N c')) X') : o.wp Try.prog a X K Q := by
  refine wpR_src hgd s x ho B0 _ [al] hs h.own7 ra rl rc R' hx hn hR N (by simpa using hN) (by simp; omega) h.size ?_
  intro a' c' w' hO hG
  rw [h8] at hO
  exact hk a' c' w' (h.last h.own7 hG hO)
end
/-- Does one of the first m rules fit? -/
def MetN (R : Nat → Ru) (s k : Int) : Nat → Bool
  | 0 => false
  | m + 1 => MetN R s k m || decide (Fits (R m) s k)
theorem MetN.some {R : Nat → Ru} {s k : Int} : ∀ {m : Nat}, MetN R s k m = true → ∃ j, j < m ∧ Fits (R j) s k
  | 0, h => by cases h
  | m + 1, h => by
    rcases Bool.or_eq_true _ _ ▸ h with h | h
    · obtain ⟨j, hj, f⟩ := MetN.some h; exact ⟨j, by omega, f⟩
    · exact ⟨m, by omega, of_decide_eq_true h⟩
theorem MetN.none {R : Nat → Ru} {s k : Int} : ∀ {m : Nat}, MetN R s k m = false → ∀ j, j < m → ¬ Fits (R j) s k
  | 0, _ => fun j hj => by omega
  | m + 1, h => fun j hj => by
    rcases Bool.or_eq_false_iff.1 h with ⟨h1, h2⟩
    rcases Nat.lt_succ_iff_lt_or_eq.1 hj with q | q
    · exact MetN.none h1 j q
    · rw [q]; exact of_decide_eq_false h2
/-- The rules with one more behind, or ahead. -/
def behR (R : Nat → Ru) (n : Nat) (al : Ru) (i : Nat) : Ru := ((List.range n).map R ++ [al]).getD i ⟨0, 0, 0⟩
def aheR (R : Nat → Ru) (n : Nat) (al : Ru) (i : Nat) : Ru := ([al] ++ (List.range n).map R).getD i ⟨0, 0, 0⟩
theorem behR_lt {R : Nat → Ru} {n : Nat} {al : Ru} {i : Nat} (h : i < n) : behR R n al i = R i := by
  unfold behR; simp [List.getD, List.getElem?_append, h]
theorem behR_at {R : Nat → Ru} {n : Nat} {al : Ru} : behR R n al n = al := by
  unfold behR; simp [List.getD, List.getElem?_append]
theorem aheR_zero {R : Nat → Ru} {n : Nat} {al : Ru} : aheR R n al 0 = al := rfl
theorem aheR_succ {R : Nat → Ru} {n : Nat} {al : Ru} {i : Nat} (h : i < n) : aheR R n al (i + 1) = R i := by
  unfold aheR; simp [List.getD, h]
theorem beh_met {R : Nat → Ru} {n : Nat} {al : Ru} {s k p : Int} (hm : MetN R s k n = true) (h : PlanOf R n s k p) : PlanOf (behR R n al) (n + 1) s k p := by
  rcases h with ⟨i, hi, f, rfl, hn⟩ | ⟨rfl, hn⟩
  · exact .inl ⟨i, by omega, by rw [behR_lt hi]; exact f, by rw [behR_lt hi], fun j hj => by rw [behR_lt (by omega)]; exact hn j hj⟩
  · obtain ⟨j, hj, f⟩ := MetN.some hm; exact absurd f (hn j hj)
theorem beh_not {R : Nat → Ru} {n : Nat} {al : Ru} {s k p : Int} (hm : MetN R s k n = false) (hf : Fits al s k) (h : PlanOf R n s k p) : p = 0 ∧ PlanOf (behR R n al) (n + 1) s k al.p := by
  have hn := MetN.none hm
  constructor
  · rcases h with ⟨i, hi, f, _, _⟩ | ⟨rfl, _⟩
    · exact absurd f (hn i hi)
    · rfl
  · exact .inl ⟨n, by omega, by rw [behR_at]; exact hf, by rw [behR_at], fun j hj => by rw [behR_lt hj]; exact hn j hj⟩
theorem ahe_is {R : Nat → Ru} {n : Nat} {al : Ru} {s k : Int} (hf : Fits al s k) : PlanOf (aheR R n al) (n + 1) s k al.p := .inl ⟨0, by omega, hf, rfl, fun j hj => by omega⟩
/-- A rule fits, case by case. -/
theorem fits_a {rs rk rp s k : Int} (s0 : rs = 0 ∨ rs = s) (k0 : rk = 0) : decide (Fits ⟨rs, rk, rp⟩ s k) = true := decide_eq_true ⟨s0, .inl k0⟩
theorem fits_b {rs rk rp s k : Int} (s0 : rs = 0 ∨ rs = s) (k0 : rk ≠ 0) : decide (Fits ⟨rs, rk, rp⟩ s k) = (rk == k) := by
  rw [Bool.eq_iff_iff, decide_eq_true_iff, beq_iff_eq]
  exact ⟨fun h => h.2.elim (fun q => absurd q k0) id, fun h => ⟨s0, .inr h⟩⟩
theorem fits_c {rs rk rp s k : Int} (s0 : rs ≠ 0) (s1 : rs ≠ s) : decide (Fits ⟨rs, rk, rp⟩ s k) = false := decide_eq_false fun h => h.1.elim s0 s1
theorem al_is {q : Int} {pl : Nat} (hp : 1 ≤ pl) : RuIs ⟨0, 0, q % pl⟩ pl := ⟨⟨by simp, by simp⟩, ⟨by simp, by simp⟩, Int.emod_nonneg _ (by omega), Int.emod_lt_of_pos _ (by omega)⟩
theorem beh_may {P : Nat → Pl} {R : Nat → Ru} {pl rl : Nat} {al : Ru} {s kd : Int} (h : PlanMay P pl R rl s kd) (hrl : rl ≤ 90) (hal : RuIs al pl) : PlanMay P pl (behR R rl al) (rl + 1) s kd := by
  obtain ⟨⟨h1, h2, _, h4, h5⟩, h6⟩ := h
  refine ⟨⟨h1, h2, by omega, h4, fun i hi => ?_⟩, h6⟩
  rcases Nat.lt_succ_iff_lt_or_eq.1 hi with e | e
  · rw [behR_lt e]; exact h5 i e
  · rw [e, behR_at]; exact hal
theorem ahe_may {P : Nat → Pl} {R : Nat → Ru} {pl rl : Nat} {al : Ru} {s kd : Int} (h : PlanMay P pl R rl s kd) (hrl : rl ≤ 90) (hal : RuIs al pl) : PlanMay P pl (aheR R rl al) (rl + 1) s kd := by
  obtain ⟨⟨h1, h2, _, h4, h5⟩, h6⟩ := h
  refine ⟨⟨h1, h2, by omega, h4, fun i hi => ?_⟩, h6⟩
  cases i with
  | zero => exact hal
  | succ i => rw [aheR_succ (by omega)]; exact h5 i (by omega)
theorem cutR {P : Program} {c : Code} {Q : Exit → Act → World → Prop} {a : Act} {w : World} (R : Act → Exit → Act → World → Prop) (h1 : c.wp P (R a) a w) (h2 : ∀ e a' w', R a e a' w' → Q e a' w') : c.wp P Q a w := Code.wp_mono h2 h1
end Go.Proofs.Ytmbimnphdhmapaa
