/- What stands while the calls of ShaPlays are gone through: a Sha, all bytes that it took, a copy of it, and the bytes that that one took. -/
import Derived.Test.YtkhhejkemkldgaaDoorPGreat
import Derived.Test.YtkhhejkemkldgaaDoorDOf
import Derived.Test.YtkhhejkemkldgaaDoorSEq
import Derived.Lib.SlBytesConst
set_option linter.unusedVariables false
set_option linter.unusedSimpArgs false
namespace Go.Proofs.YtkhhejkemkldgaaDoor
open Go.RowKit Go.Shelf
namespace Plays
theorem conv_lit (g : Nat) (w : World) (hg : g = w.heap.size) (C : Array Value) (n : Nat) (hn : n = C.size) : (convert 33 33 (.slice (some ⟨g, 0, none⟩) n n)).run Tryd.prog (w.alloc (.cells C 5)) = .ok (.slice (some ⟨g, 0, none⟩) n n) (w.alloc (.cells C 5 (n, n + 1))) := by
  subst hg; subst hn
  exact Lib.run_convert_bytes_const (P := Tryd.prog) w 33 5 C _ _ Tryd.underlying33 Tryd.underlying5
theorem built_sha : Tryd.prog.built 32 [] = some (shaC [0, 0, 0, 0, 0, 0, 0, 0] (fun _ => 0) 0) := by kernel_rfl
/-- 'Sha{}' -/
theorem build_sha {ops : Array Oper} {rest : List Oper} {o : Oper} {a : Act} {w : World} {Q : Exit → Act → World → Prop}
    (hgd : o.guard = none) (ho : o.op = .build 32 #[]) (h : wpList Tryd.prog ops Q rest (a.put o.dst (.agg (shaC [0, 0, 0, 0, 0, 0, 0, 0] (fun _ => 0) 0))) w) : wpList Tryd.prog ops Q (o :: rest) a w := by
  have e : ((#[] : Array (Nat × Operand)).map fun (i, x) => (i, a.eval x)).toList = [] := by simp
  refine wpList_build hgd 32 #[] ho ?_ ?_
  · rw [e, built_sha]; rfl
  · rw [e, built_sha]; exact h
theorem lit_of {n g : Nat} {T : TypeId} {fr : Nat × Nat} {W : World} (xs : List Int) (hx : ∀ x ∈ xs, 0 ≤ x ∧ x < 256) (h : W.heap[g]? = some (.cells (vals8 xs).toArray T fr)) (hg : g < n) : Bys8 n W (.slice (some ⟨g, 0, none⟩) xs.length xs.length) xs := by
  refine ⟨hx, .inr ⟨g, 0, xs.length, rfl, hg, fun j hj => ?_⟩⟩
  simp only [World.cell?, h, Nat.zero_add]
  simp [List.getD, hj, vals8]
theorem tabs_grown {W X : World} {T : Nat} (h : Tabs W) (hg : W.grownBy X (some T)) (hT : 2 ≤ T) : Tabs X := ⟨h.1.of (hg.block 0 (by have := h.lt; omega) (fun e => by injection e; omega)), h.2.of (hg.block 1 h.lt (fun e => by injection e; omega))⟩
theorem tabs_row {W X : World} {row : Option Nat} (h : Tabs W) (hg : W.grownBy X row) (hT : ∀ k, row = some k → 2 ≤ k) : Tabs X := ⟨h.1.of (hg.block 0 (by have := h.lt; omega) (fun e => by have := hT 0 e.symm; omega)), h.2.of (hg.block 1 h.lt (fun e => by have := hT 1 e.symm; omega))⟩
theorem sha_row {W X : World} {S : Nat} {row : Option Nat} {xs : List Int} (h : ShaAt W S xs) (hg : W.grownBy X row) (hne : row ≠ some S) : ShaAt X S xs := ⟨h.1, (hg.block S h.lt (fun e => hne e.symm)).trans h.2⟩
theorem own_row {W X : World} {base : Nat} {row : Option Nat} {v : Value} {xs : List Int} (h : Own8 base W v xs) (hg : W.grownBy X row) (hne : ∀ k, v.ownBlock = some k → row ≠ some k) : Own8 base X v xs := by
  refine ⟨h.1, h.2.kept hg ?_⟩
  cases hv : v.ownBlock with
  | none => exact .inl rfl
  | some k => exact .inr fun e => hne k hv e.symm
theorem below_of_row {B : Nat} {W X : World} {row : Option Nat} (hg : W.grownBy X row) (h : ∀ k, row = some k → B ≤ k) (hB : B ≤ W.heap.size) : Below B W X := (Below.refl _ _).grown hg hB h
def oldPtr : Option (Nat × List Int) → Value
  | none => .pointer none
  | some (O, _) => .pointer (some ⟨O, 0, none⟩)
/-- The copy, and what it took. -/
def OldOk (n₀ S : Nat) (v5 v6 : Value) (W : World) : Option (Nat × List Int) → Prop
  | none => True
  | some (O, ws) => n₀ ≤ O ∧ O ≠ S ∧ ShaAt W O ws ∧ Own8 n₀ W v6 ws ∧ Dis v5 v6 ∧ v5.ownBlock ≠ some O ∧ v6.ownBlock ≠ some S ∧ v6.ownBlock ≠ some O ∧ ws.length ≤ 4000
def PS (w : World) (S : Nat) (v5 v6 : Value) (sl al : List Int) (o : Option (Nat × List Int)) (W : World) : Prop :=
  Tabs W ∧ 1 < w.heap.size ∧ w.heap.size ≤ S ∧ ShaAt W S sl ∧ Own8 w.heap.size W v5 al ∧ v5.ownBlock ≠ some S ∧ Below w.heap.size w W ∧ OldOk w.heap.size S v5 v6 W o
/-- A row that none of these is. -/
def Free (S : Nat) (v5 v6 : Value) (o : Option (Nat × List Int)) (R : Nat) : Prop := R ≠ S ∧ v5.ownBlock ≠ some R ∧ (∀ O ws, o = some (O, ws) → R ≠ O ∧ v6.ownBlock ≠ some R)
section
variable {w : World} {S : Nat} {v5 v6 : Value} {sl al : List Int} {o : Option (Nat × List Int)} {W Y : World}
theorem PS.free (h : PS w S v5 v6 sl al o W) (R : Nat) (hR : W.heap.size ≤ R) : Free S v5 v6 o R := by
  obtain ⟨hT, h2, hS, hs, hO, hn, hB, ho⟩ := h
  refine ⟨by have := hs.lt; omega, fun e => by have := (hO.2.lt R e).2; omega, fun O ws e => ?_⟩
  subst e
  obtain ⟨p1, p2, p3, p4, _⟩ := ho
  exact ⟨by have := p3.lt; omega, fun e => by have := (p4.2.lt R e).2; omega⟩
theorem PS.row (h : PS w S v5 v6 sl al o W) (R : Nat) (hf : Free S v5 v6 o R) (h2 : 2 ≤ R) (hR : w.heap.size ≤ R) (hg : W.grownBy Y (some R)) : PS w S v5 v6 sl al o Y := by
  obtain ⟨hT, q2, hS, hs, hO, hn, hB, ho⟩ := h
  refine ⟨tabs_grown hT hg h2, q2, hS, sha_row hs hg (fun e => hf.1 (by injection e)), own_row hO hg (fun k hk e => hf.2.1 (by rw [hk, e])), hn, hB.trans (below_of_row hg (fun k e => by injection e; omega) hB.size), ?_⟩
  cases o with
  | none => trivial
  | some p =>
    obtain ⟨O, ws⟩ := p
    obtain ⟨p1, p2, p3, p4, p5⟩ := ho
    have hf3 := hf.2.2 O ws rfl
    exact ⟨p1, p2, sha_row p3 hg (fun e => hf3.1 (by injection e)), own_row p4 hg (fun k hk e => hf3.2 (by rw [hk, e])), p5⟩
theorem PS.below (h : PS w S v5 v6 sl al o W) (hg : Below W.heap.size W Y) : PS w S v5 v6 sl al o Y := by
  obtain ⟨hT, q2, hS, hs, hO, hn, hB, ho⟩ := h
  refine ⟨hT.below hT.lt hg, q2, hS, hs.below hg hs.lt, hO.below hg (Nat.le_refl _), hn, hB.trans (hg.mono hB.size), ?_⟩
  cases o with
  | none => trivial
  | some p =>
    obtain ⟨O, ws⟩ := p
    obtain ⟨p1, p2, p3, p4, p5⟩ := ho
    exact ⟨p1, p2, p3.below hg p3.lt, p4.below hg (Nat.le_refl _), p5⟩
theorem PS.write (h : PS w S v5 v6 sl al o W) {sl' : List Int} (hs' : ShaAt Y S sl') (hg : W.grownBy Y (some S)) : PS w S v5 v6 sl' al o Y := by
  obtain ⟨hT, q2, hS, hs, hO, hn, hB, ho⟩ := h
  refine ⟨tabs_grown hT hg (by omega), q2, hS, hs', own_row hO hg (fun k hk e => hn (by rw [hk, e])), hn, hB.trans (below_of_row hg (fun k e => by injection e; omega) hB.size), ?_⟩
  cases o with
  | none => trivial
  | some p =>
    obtain ⟨O, ws⟩ := p
    obtain ⟨p1, p2, p3, p4, p5, p6, p7, p8⟩ := ho
    exact ⟨p1, p2, sha_row p3 hg (fun e => p2 (by injection e with e; exact e.symm)), own_row p4 hg (fun k hk e => p7 (by rw [hk, e])), p5, p6, p7, p8⟩
theorem PS.app (h : PS w S v5 v6 sl al o W) {v5' : Value} {al' : List Int} (hO' : Own8 w.heap.size Y v5' al') (hg : W.grownBy Y v5.ownBlock) (hb : Below w.heap.size W Y) (hv : v5'.ownBlock = v5.ownBlock ∨ v5'.ownBlock = some W.heap.size) : PS w S v5' v6 sl al' o Y := by
  have hfr := h.free W.heap.size (Nat.le_refl _)
  obtain ⟨hT, q2, hS, hs, hO, hn, hB, ho⟩ := h
  have hne : ∀ R, v5.ownBlock ≠ some R → W.heap.size ≠ R → v5'.ownBlock ≠ some R := fun R h1 h2 e => by
    rcases hv with h | h
    · exact h1 (h.symm.trans e)
    · rw [h] at e; injection e with e; exact h2 e
  refine ⟨tabs_row hT hg (fun k hk => by have := (hO.2.lt k hk).1; omega), q2, hS, sha_row hs hg hn, hO', hne S hn hfr.1, hB.trans hb, ?_⟩
  cases o with
  | none => trivial
  | some p =>
    obtain ⟨O, ws⟩ := p
    obtain ⟨p1, p2, p3, p4, p5, p6, p7, p8⟩ := ho
    exact ⟨p1, p2, sha_row p3 hg p6, own_row p4 hg (fun k hk e => p5 k e hk), p5.grow p4 (Nat.le_refl _) hv, hne O p6 (hfr.2.2 O ws rfl).1, p7, p8⟩
theorem PS.writeOld {O : Nat} {ws : List Int} (h : PS w S v5 v6 sl al (some (O, ws)) W) (hg : W.grownBy Y (some O)) : PS w S v5 v6 sl al none Y ∧ Own8 w.heap.size Y v6 ws := by
  obtain ⟨hT, q2, hS, hs, hO, hn, hB, p1, p2, p3, p4, p5, p6, p7, p8, p9⟩ := h
  exact ⟨⟨tabs_grown hT hg (by omega), q2, hS, sha_row hs hg (fun e => p2 (by injection e)), own_row hO hg (fun k hk e => p6 (by rw [hk, e])), hn, hB.trans (below_of_row hg (fun k e => by injection e; omega) hB.size), trivial⟩, own_row p4 hg (fun k hk e => p8 (by rw [hk, e]))⟩
theorem PS.app6 (h : PS w S v5 v6 sl al none W) {u : Value} (hg : W.grownBy Y u.ownBlock) (hb : Below w.heap.size W Y) (hu : u.ownBlock ≠ some S) (hd : Dis v5 u) (h2 : ∀ k, u.ownBlock = some k → w.heap.size ≤ k) : PS w S v5 v6 sl al none Y := by
  obtain ⟨hT, q2, hS, hs, hO, hn, hB, _⟩ := h
  exact ⟨tabs_row hT hg (fun k hk => by have := h2 k hk; omega), q2, hS, sha_row hs hg hu, own_row hO hg (fun k hk e => hd k hk e), hn, hB.trans hb, trivial⟩
theorem PS.len (h : PS w S v5 v6 sl al o W) : Below w.heap.size w W := h.2.2.2.2.2.2.1
end
end Plays
end Go.Proofs.YtkhhejkemkldgaaDoor
