/- A device of the call's own, step by step. -/
import Derived.Test.YteopbeafhhfdoaaLReads
set_option linter.unusedVariables false
set_option linter.unusedSimpArgs false
namespace Go.Proofs.Yteopbeafhhfdoaa
open Go.RowKit
/-- The device lies at D, all its blocks are from B on, and below B nothing has turned since w. -/
structure DevSt (B : Nat) (w : World) (D : Nat) (W : World) (p : Pl) (d : Dv) : Prop where
  dev : DevAt W p d
  fresh : ∀ k, own p k → B ≤ k
  below : Below B w W
  D : p.D = D
  le : B ≤ W.heap.size
section
variable {B D : Nat} {w W W' : World} {p p' : Pl} {d d' : Dv}
theorem DevSt.step (h : DevSt B w D W p d) (hd : DevAt W' p' d') (hs : Step p p' W W') : DevSt B w D W' p' d' :=
  ⟨hd, hs.fresh h.fresh h.le, h.below.trans (hs.below h.fresh h.le), hs.D.trans h.D, Nat.le_trans h.le hs.upd.size⟩
theorem DevSt.next (h : DevSt B w D W p d) (hb : Below W.heap.size W W') : DevSt B w D W' p d :=
  ⟨h.dev.below hb, h.fresh, h.below.trans (hb.mono h.le), h.D, Nat.le_trans h.le hb.size⟩
theorem DevSt.new {m : Nat} (hd : DevAt W p (Dv.new m)) (hf : ∀ k, own p k → w.heap.size ≤ k) (hB : Below w.heap.size w W) : DevSt w.heap.size w p.D W p (Dv.new m) := ⟨hd, hf, hB, rfl, hB.size⟩
/-- A block that isn't the device's. -/
def Far (p : Pl) (W : World) (g : Nat) : Prop := g < W.heap.size ∧ ¬ own p g
theorem Far.step {g : Nat} (h : Far p W g) (hs : Step p p' W W') : Far p' W' g :=
  ⟨Nat.lt_of_lt_of_le h.1 hs.upd.size, fun q => by rcases hs.has g q with r | r; exact h.2 r; have := h.1; omega⟩
theorem Far.next {g : Nat} (h : Far p W g) (hb : W.heap.size ≤ W'.heap.size) : Far p W' g := ⟨Nat.lt_of_lt_of_le h.1 hb, h.2⟩
theorem Far.new {g : Nat} (h : DevAt W p d) (hg : W.heap.size ≤ g) (hl : g < W'.heap.size) : Far p W' g := ⟨hl, fun q => by have := h.lt g q; omega⟩
/-- What lies far is as it was. -/
theorem Far.block {g : Nat} (h : Far p W g) (hs : Step p p' W W') : W'.heap[g]? = W.heap[g]? := hs.upd.block g h.1 h.2
end
/-- Row8 kept. -/
theorem Row8.block {g n : Nat} {f : Nat → Int} {W W' : World} (h : Row8 g n f W) (hb : W'.heap[g]? = W.heap[g]?) : Row8 g n f W' :=
  fun j hj => ⟨(World.cell?_of_block (a := ⟨g, j, none⟩) hb).trans (h j hj).1, (World.frozen?_of_block (a := ⟨g, j, none⟩) hb).trans (h j hj).2⟩
def RowF (p : Pl) (W : World) (g n : Nat) (f : Nat → Int) : Prop := Far p W g ∧ Row8 g n f W
theorem RowF.next {p : Pl} {W W' : World} {g n : Nat} {f : Nat → Int} (h : RowF p W g n f) (hB : Below W.heap.size W W') : RowF p W' g n f := ⟨h.1.next hB.size, h.2.block (hB.block g h.1.1)⟩
theorem RowF.step {p p' : Pl} {W W' : World} {g n : Nat} {f : Nat → Int} (h : RowF p W g n f) (hS : Step p p' W W') : RowF p' W' g n f := ⟨h.1.step hS, h.2.block (h.1.block hS)⟩
theorem RowF.new {p : Pl} {d : Dv} {W W' : World} {g n : Nat} {f : Nat → Int} (h : DevAt W p d) (hg : W.heap.size ≤ g) (hl : g < W'.heap.size) (hP : Row8 g n f W') : RowF p W' g n f := ⟨Far.new h hg hl, hP⟩
theorem RowF.bys {p : Pl} {W : World} {g n : Nat} {f : Nat → Int} (h : RowF p W g n f) (hf : ∀ j, j < n → 0 ≤ f j ∧ f j < 256) (cap : Nat) : Bys8 W.heap.size W (.slice (some ⟨g, 0, none⟩) n cap) ((List.range n).map f) := h.2.bys hf h.1.1 cap
theorem RowF.apart {p : Pl} {W : World} {g n : Nat} {f : Nat → Int} (h : RowF p W g n f) (l c : Nat) : ∀ k, (Value.slice (some ⟨g, 0, none⟩) l c).ownBlock = some k → ¬ own p k := fun k e => by cases e; exact h.1.2
/-- A row of ints of the call's own. -/
def IntsF (p : Pl) (W : World) (v : Value) (xs : List Int) : Prop := (∀ k, v.ownBlock = some k → Far p W k) ∧ W.ownsRow 0 3 1 v xs.length (ints xs)
theorem IntsF.next {p : Pl} {W W' : World} {v : Value} {xs : List Int} (h : IntsF p W v xs) (hB : Below W.heap.size W W') : IntsF p W' v xs := ⟨fun k e => (h.1 k e).next hB.size, ownsRow_upd h.2 (Upd.of hB (fun _ => False)) (fun _ _ q => q)⟩
theorem IntsF.step {p p' : Pl} {W W' : World} {v : Value} {xs : List Int} (h : IntsF p W v xs) (hS : Step p p' W W') : IntsF p' W' v xs := ⟨fun k e => (h.1 k e).step hS, ownsRow_upd h.2 hS.upd (fun k e => (h.1 k e).2)⟩
theorem IntsF.new {p : Pl} {d : Dv} {W W' : World} {v : Value} {xs : List Int} (h : DevAt W p d) (hg : ∀ k, v.ownBlock = some k → W.heap.size ≤ k) (hO : W'.ownsRow 0 3 1 v xs.length (ints xs)) : IntsF p W' v xs := ⟨fun k e => Far.new h (hg k e) (hO.lt k e).2, hO⟩
theorem DevSt.far {B D : Nat} {w W W' : World} {p : Pl} {d : Dv} (h : DevSt B w D W p d) {g n : Nat} {f : Nat → Int} (hr : RowF p W g n f) (hn : 0 < n) (hB : B ≤ g) (hu : Upd (fun k => k = g) W W') : DevSt B w D W' p d := by
  have h0 := (hr.2 0 hn).1
  refine ⟨h.dev.upd hu (fun k hk e => hr.1.2 (e ▸ hk)) (fun e => ?_) (fun e => ?_), h.fresh, h.below.trans (hu.below (fun j e => by omega) h.le), h.D, Nat.le_trans h.le hu.size⟩
  · have e' : p.B1 = g := e
    have := h.dev.b1.cell 0
    rw [e', h0] at this
    simp at this
  · have e' : p.B2 = g := e
    have := h.dev.b2.cell 0
    rw [e', h0] at this
    simp at this
theorem RowF.set {p : Pl} {W : World} {g n : Nat} {f : Nat → Int} (h : RowF p W g n f) (k : Nat) (x : Int) : RowF p (W.setCell ⟨g, k, none⟩ (.int .u8 x)) g n (fun j => if j = k then x else f j) := ⟨⟨by rw [World.size_setCell]; exact h.1.1, h.1.2⟩, h.2.set k x⟩
theorem IntsF.form {p : Pl} {W : World} {v : Value} {xs : List Int} (h : IntsF p W v xs) (h0 : 0 < xs.length) : ∃ g c, v = .slice (some ⟨g, 0, none⟩) xs.length c ∧ ∀ j, j < xs.length → W.cell? ⟨g, j, none⟩ = some (.int .i64 (xs.getD j 0)) := by
  rcases h.2.2 with ⟨_, e⟩ | ⟨g, cap, cur, e, _⟩
  · omega
  · have hO := h.2
    rw [e] at hO
    refine ⟨g, cap, e, fun j hj => ?_⟩
    rw [hO.cellAt j (by omega)]
    simp [ints, List.getD, hj]
/-- A literal of one byte. -/
theorem RowF.lit {p : Pl} {d : Dv} {W : World} (h : DevAt W p d) (x : Int) : RowF p (W.alloc (.cells #[.int .u8 x] 5)) W.heap.size 1 (fun _ => x) :=
  RowF.new h (Nat.le_refl _) (by simp) (fun j hj => by
    obtain rfl : j = 0 := by omega
    have := At.new 5 W #[.int .u8 x]
    exact ⟨this.cell 0, this.free 0⟩)
def rowL (n : Nat) (f : Nat → Int) : List Int := (List.range n).map f
theorem rowL_len (n : Nat) (f : Nat → Int) : (rowL n f).length = n := by simp [rowL]
end Go.Proofs.Yteopbeafhhfdoaa
