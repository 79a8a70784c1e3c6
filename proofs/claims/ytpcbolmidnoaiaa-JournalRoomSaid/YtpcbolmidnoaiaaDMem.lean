/- A device in memory: blocks known whole, rows of longer elements, what a call may write to. -/
import Derived.Test.YtpcbolmidnoaiaaDModel
import Derived.Laws.Rows
import Derived.Laws.Tables
import Derived.Deep.WholeRow
import Derived.Deep.MidRow
import Derived.LoopTactic
import Derived.Below
set_option linter.unusedVariables false
namespace Go.Proofs.Ytpcbolmidnoaiaa
open Go.RowKit
/-- A block known whole. -/
def At (T : TypeId) (W : World) (b : Nat) (cs : Array Value) : Prop := W.heap[b]? = some (.cells cs T (0, 0))
theorem At.lt {T : TypeId} {W : World} {b : Nat} {cs : Array Value} (h : At T W b cs) : b < W.heap.size := (Array.getElem?_eq_some_iff.1 h).1
theorem At.free {T : TypeId} {W : World} {b : Nat} {cs : Array Value} (h : At T W b cs) (j : Nat) : W.frozen? ⟨b, j, none⟩ = false := frozen_of_row W b j cs _ h
theorem At.cell {T : TypeId} {W : World} {b : Nat} {cs : Array Value} (h : At T W b cs) (j : Nat) : W.cell? ⟨b, j, none⟩ = cs[j]? := cell_of_row W b j cs _ _ h
theorem At.set {T : TypeId} {W : World} {b : Nat} {cs : Array Value} (h : At T W b cs) (k : Nat) (x : Value) : At T (W.setCell ⟨b, k, none⟩ x) b (cs.setIfInBounds k x) := heap_setCell_same W b k _ _ x h
theorem At.other {T : TypeId} {W : World} {b : Nat} {cs : Array Value} (h : At T W b cs) {a : Addr} (v : Value) (hne : b ≠ a.block) : At T (W.setCell a v) b cs := (heap_setCell_other W a b v hne).trans h
theorem At.alloc {T : TypeId} {W : World} {b : Nat} {cs : Array Value} (h : At T W b cs) (o : Obj) : At T (W.alloc o) b cs := by
  have : (W.alloc o).heap[b]? = W.heap[b]? := by
    show (W.heap.push o)[b]? = W.heap[b]?
    rw [Array.getElem?_push, if_neg (Nat.ne_of_lt h.lt)]
  exact this.trans h
theorem At.new (T : TypeId) (W : World) (cs : Array Value) : At T (W.alloc (.cells cs T)) W.heap.size cs := heap_alloc_new W _
theorem At.below {T : TypeId} {W W' : World} {B b : Nat} {cs : Array Value} (h : At T W b cs) (hb : b < B) (hB : Below B W W') : At T W' b cs := (hB.block b hb).trans h
/-- A row of n numbers. -/
def nums (k : IntKind) (n : Nat) (f : Nat → Int) : Array Value := ((List.range n).map (fun i => Value.int k (f i))).toArray
theorem nums_size (k : IntKind) (n : Nat) (f : Nat → Int) : (nums k n f).size = n := by simp [nums]
/-- All blocks that were there but those of O are as they were. -/
structure Upd (O : Nat → Prop) (w w' : World) : Prop where
  os : w'.os = w.os
  tape : w'.tape = w.tape
  output : w'.output = w.output
  size : w.heap.size ≤ w'.heap.size
  block : ∀ k, k < w.heap.size → ¬ O k → w'.heap[k]? = w.heap[k]?
section
variable {O O' : Nat → Prop} {X Y Z : World}
theorem Upd.refl (O : Nat → Prop) (w : World) : Upd O w w := ⟨rfl, rfl, rfl, Nat.le_refl _, fun _ _ _ => rfl⟩
theorem Upd.trans (h : Upd O X Y) (k : Upd O' Y Z) (ho : ∀ j, O' j → O j ∨ X.heap.size ≤ j) : Upd O X Z :=
  ⟨k.os.trans h.os, k.tape.trans h.tape, k.output.trans h.output, Nat.le_trans h.size k.size, fun j hj hn => (k.block j (Nat.lt_of_lt_of_le hj h.size) (fun q => by rcases ho j q with q | q; exact hn q; omega)).trans (h.block j hj hn)⟩
theorem Upd.mono (h : Upd O X Y) (ho : ∀ j, O j → O' j) : Upd O' X Y := ⟨h.os, h.tape, h.output, h.size, fun j hj hn => h.block j hj (fun q => hn (ho j q))⟩
theorem Upd.of (h : Below X.heap.size X Y) (O : Nat → Prop) : Upd O X Y := ⟨h.os, h.tape, h.output, h.size, fun j hj _ => h.block j hj⟩
theorem Upd.below {B : Nat} (h : Upd O X Y) (ho : ∀ j, O j → B ≤ j) (hB : B ≤ X.heap.size) : Below B X Y := ⟨h.os, h.tape, h.output, h.size, fun j hj => h.block j (by omega) (fun q => by have := ho j q; omega)⟩
theorem Upd.drew (h : Upd O X Y) : Upd O X Y.drew := ⟨h.os, h.tape, h.output, h.size, h.block⟩
theorem Upd.alloc (h : Upd O X Y) (o : Obj) : Upd O X (Y.alloc o) := h.trans (Upd.of ((Below.refl _ Y).alloc (Nat.le_refl _) o) (fun _ => False)) (fun _ q => q.elim)
theorem Upd.setCell (h : Upd O X Y) {p : Addr} (hp : O p.block ∨ X.heap.size ≤ p.block) (v : Value) : Upd O X (Y.setCell p v) :=
  ⟨h.os, h.tape, h.output, by have := h.size; simpa using this, fun k hk hn => (heap_setCell_other Y p k v (fun e => by rcases hp with q | q; exact hn (e ▸ q); omega)).trans (h.block k hk hn)⟩
theorem Upd.grown {row : Option Nat} (h : Upd O X Y) (hg : Y.grownBy Z row) (hr : ∀ r, row = some r → O r ∨ X.heap.size ≤ r) : Upd O X Z :=
  ⟨hg.os.trans h.os, hg.tape.trans h.tape, hg.output.trans h.output, Nat.le_trans h.size hg.size, fun k hk hn => (hg.block k (Nat.lt_of_lt_of_le hk h.size) (fun e => by rcases hr k e.symm with q | q; exact hn q; omega)).trans (h.block k hk hn)⟩
theorem At.upd {T : TypeId} {b : Nat} {cs : Array Value} (h : At T X b cs) (hu : Upd O X Y) (hn : ¬ O b) : At T Y b cs := (hu.block b h.lt hn).trans h
end
theorem grown_setCell (w : World) (g o : Nat) (v : Value) : w.grownBy (w.setCell ⟨g, o, none⟩ v) (some g) :=
  ⟨rfl, rfl, rfl, by simp, fun k _ hk => heap_setCell_other w ⟨g, o, none⟩ k v (fun e => hk (by rw [e]))⟩
theorem grown_trans {a b c : World} {row : Option Nat} (h : a.grownBy b row) (k : b.grownBy c row) : a.grownBy c row :=
  ⟨k.os.trans h.os, k.tape.trans h.tape, k.output.trans h.output, Nat.le_trans h.size k.size, fun j hj hn => (k.block j (Nat.lt_of_lt_of_le hj h.size) hn).trans (h.block j hj hn)⟩
theorem grown_setCells (g : Nat) : ∀ (vs : List Value) (o : Nat) (w : World), w.grownBy (w.setCells g o vs) (some g)
  | [], _, w => World.grownBy.refl w _
  | v :: vs, o, w => grown_trans (grown_setCell w g o v) (grown_setCells g vs (o + 1) _)
/-- A row of elements of n cells each. -/
theorem flat_get {α : Type} {n : Nat} : ∀ (rows : List (List α)) (i j : Nat), (∀ r ∈ rows, r.length = n) → j < n → rows.flatten[i * n + j]? = (rows[i]?).bind (fun r => r[j]?)
  | [], i, j, _, _ => by simp
  | r :: rows, 0, j, h, hj => by
    rw [List.flatten_cons, Nat.zero_mul, Nat.zero_add, List.getElem?_append_left (by rw [h r List.mem_cons_self]; exact hj)]; rfl
  | r :: rows, i + 1, j, h, hj => by
    have hr := h r List.mem_cons_self
    rw [List.flatten_cons, List.getElem?_append_right (by rw [hr, Nat.add_mul]; omega), hr, show (i + 1) * n + j - n = i * n + j by rw [Nat.add_mul]; omega, flat_get rows i j (fun q hq => h q (List.mem_cons_of_mem _ hq)) hj]
    rfl
theorem flat_len {α : Type} {n : Nat} : ∀ (rows : List (List α)), (∀ r ∈ rows, r.length = n) → rows.flatten.length = rows.length * n
  | [], _ => by simp
  | r :: rows, h => by rw [List.flatten_cons, List.length_append, h r List.mem_cons_self, flat_len rows (fun q hq => h q (List.mem_cons_of_mem _ hq)), List.length_cons, Nat.add_mul]; omega
/-- Where a row's element lies. -/
theorem range_of_row {w : World} {base : Nat} {T : TypeId} {n g m c : Nat} {rows : List (List Value)} (h : w.ownsRow base T n (.slice (some ⟨g, 0, none⟩) m c) m rows.flatten) (hr : ∀ r ∈ rows, r.length = n) (hm : m = rows.length) (i : Nat) (hi : i < rows.length) :
    w.rangeAt g (i * n) rows[i] := fun j v hv => by
  have hj : j < n := by rw [← hr _ (List.getElem_mem hi)]; exact (List.getElem?_eq_some_iff.1 hv).1
  have hlt : i * n + j < m * n := by
    have : (i + 1) * n ≤ m * n := Nat.mul_le_mul_right _ (by omega)
    rw [Nat.add_mul] at this; omega
  rw [h.cellAt _ hlt, flat_get rows i j hr hj, List.getElem?_eq_getElem hi]
  exact hv
theorem there_of_row {w : World} {base : Nat} {T : TypeId} {n g m c : Nat} {xs : List Value} (h : w.ownsRow base T n (.slice (some ⟨g, 0, none⟩) m c) m xs) (o k : Nat) (hk : o + k ≤ m * n) : w.there g o k := fun j hj => by
  refine ⟨?_, h.frozenAt _⟩
  rw [h.cellAt _ (by omega), List.getElem?_eq_getElem (by rw [h.1]; omega)]; rfl
theorem row_setCells {base : Nat} {T : TypeId} {n g m c : Nat} : ∀ (vs : List Value) (o : Nat) (xs : List Value) (w : World), w.ownsRow base T n (.slice (some ⟨g, 0, none⟩) m c) m xs → o + vs.length ≤ xs.length →
    (w.setCells g o vs).ownsRow base T n (.slice (some ⟨g, 0, none⟩) m c) m (xs.take o ++ vs ++ xs.drop (o + vs.length))
  | [], o, xs, w, h, _ => by
    rw [List.append_nil, List.length_nil, Nat.add_zero, List.take_append_drop]
    exact h
  | v :: vs, o, xs, w, h, hl => by
    have hl' : o + (vs.length + 1) ≤ xs.length := by simpa using hl
    have := row_setCells vs (o + 1) _ _ (h.stored o v).1 (by rw [List.length_set]; omega)
    rw [World.setCells]
    have e : (xs.set o v).take (o + 1) ++ vs ++ (xs.set o v).drop (o + 1 + vs.length) = xs.take o ++ (v :: vs) ++ xs.drop (o + (v :: vs).length) := by
      rw [List.drop_set_of_lt (by omega), List.take_set, List.length_cons, show o + 1 + vs.length = o + (vs.length + 1) by omega]
      congr 1
      rw [List.take_succ_eq_append_getElem (by omega), List.set_append_right _ _ (by rw [List.length_take]; exact Nat.min_le_left _ _), List.length_take, Nat.min_eq_left (by omega), Nat.sub_self]
      simp
    rwa [e] at this
/-- An element's part is replaced. -/
theorem flat_set {α : Type} {n : Nat} (rows : List (List α)) (hr : ∀ r ∈ rows, r.length = n) (i : Nat) (hi : i < rows.length) (vs : List α) (hv : vs.length ≤ n) :
    rows.flatten.take (i * n) ++ vs ++ rows.flatten.drop (i * n + vs.length) = (rows.set i (vs ++ rows[i].drop vs.length)).flatten := by
  have hri := hr _ (List.getElem_mem hi)
  have hsr : ∀ r ∈ rows.set i (vs ++ rows[i].drop vs.length), r.length = n := fun r hq => by
    rcases List.mem_or_eq_of_mem_set hq with q | q
    · exact hr r q
    · rw [q, List.length_append, List.length_drop, hri]; omega
  have hfl := flat_len rows hr
  have hin : i * n + n ≤ rows.length * n := by
    have : (i + 1) * n ≤ rows.length * n := Nat.mul_le_mul_right _ (by omega)
    rw [Nat.add_mul] at this; omega
  apply List.ext_getElem?
  intro q
  by_cases hn : n = 0
  · have hv0 : vs = [] := List.eq_nil_of_length_eq_zero (by omega)
    rw [List.getElem?_eq_none (by rw [List.length_append, List.length_append, List.length_take, List.length_drop, hfl, hn, hv0]; simp), List.getElem?_eq_none (by rw [flat_len _ hsr, hn]; simp)]
  · have hq : q = q / n * n + q % n := by rw [Nat.mul_comm]; exact (Nat.div_add_mod q n).symm
    have hqm : q % n < n := Nat.mod_lt _ (by omega)
    have hrhs : (rows.set i (vs ++ rows[i].drop vs.length)).flatten[q]? = ((rows.set i (vs ++ rows[i].drop vs.length))[q / n]?).bind (fun r => r[q % n]?) := by
      rw [← flat_get _ _ _ hsr hqm, ← hq]
    have hlhs : rows.flatten[q]? = (rows[q / n]?).bind (fun r => r[q % n]?) := by
      rw [← flat_get _ _ _ hr hqm, ← hq]
    rw [hrhs, List.append_assoc]
    rcases Nat.lt_trichotomy (q / n) i with h | h | h
    · have : q / n * n + n ≤ i * n := by
        have : (q / n + 1) * n ≤ i * n := Nat.mul_le_mul_right _ (by omega)
        rw [Nat.add_mul] at this; omega
      rw [List.getElem?_append_left (by rw [List.length_take, hfl]; omega), List.getElem?_take_of_lt (by omega), hlhs, List.getElem?_set_ne (by omega)]
    · rw [List.getElem?_append_right (by rw [List.length_take, hfl, ← h]; omega), List.length_take, hfl, Nat.min_eq_left (by omega), h, List.getElem?_set_self hi, Option.bind_some]
      rw [show q - i * n = q % n by rw [← h]; omega]
      by_cases hqv : q % n < vs.length
      · rw [List.getElem?_append_left hqv, List.getElem?_append_left hqv]
      · rw [List.getElem?_append_right (by omega), List.getElem?_append_right (by omega), List.getElem?_drop, List.getElem?_drop, show i * n + vs.length + (q % n - vs.length) = q by rw [← h]; omega, show vs.length + (q % n - vs.length) = q % n by omega, hlhs, h, List.getElem?_eq_getElem hi]
        rfl
    · have : i * n + n ≤ q / n * n := by
        have : (i + 1) * n ≤ q / n * n := Nat.mul_le_mul_right _ (by omega)
        rw [Nat.add_mul] at this; omega
      rw [List.getElem?_append_right (by rw [List.length_take, hfl]; omega), List.length_take, hfl, Nat.min_eq_left (by omega), List.getElem?_append_right (by omega), List.getElem?_drop, show i * n + vs.length + (q - i * n - vs.length) = q by omega, hlhs, List.getElem?_set_ne (by omega)]
theorem ownsRow_upd {O : Nat → Prop} {X Y : World} {base : Nat} {T : TypeId} {size n : Nat} {v : Value} {xs : List Value} (h : X.ownsRow base T size v n xs) (hu : Upd O X Y) (hn : ∀ k, v.ownBlock = some k → ¬ O k) : Y.ownsRow base T size v n xs := by
  refine ⟨h.1, ?_⟩
  rcases h.2 with e | ⟨g, cap, cur, rfl, hg, hh, r⟩
  · exact .inl e
  · exact .inr ⟨g, cap, cur, rfl, hg, (hu.block g (Array.getElem?_eq_some_iff.1 hh).1 (hn g rfl)).trans hh, r⟩
/-- Where a device lies. -/
structure Pl where
  D : Nat
  S : Nat
  cS : Nat
  B1 : Nat
  B2 : Nat
  vC : Value
def own (p : Pl) (k : Nat) : Prop := k = p.D ∨ k = p.S ∨ p.vC.ownBlock = some k
def wcells (x : Int × List Int) : List Value := .int .i64 x.1 :: vals8 x.2
abbrev planF (B1 B2 : Nat) : Value := .func (.func 42) #[] #[.pointer (some ⟨B1, 0, none⟩), .pointer (some ⟨B2, 0, none⟩)]
structure DevAt (w : World) (p : Pl) (d : Dv) : Prop where
  dev : At 53 w p.D #[.slice (some ⟨p.S, 0, none⟩) d.safe.length p.cS, p.vC, planF p.B1 p.B2, .int .i64 d.calls, .bool d.down]
  b1 : At 3 w p.B1 #[.int .i64 d.frm]
  b2 : At 3 w p.B2 #[.int .i64 d.num]
  safe : w.ownsRow 0 94 128 (.slice (some ⟨p.S, 0, none⟩) d.safe.length p.cS) d.safe.length (d.safe.map vals8).flatten
  cache : w.ownsRow 0 96 129 p.vC d.cache.length (d.cache.map wcells).flatten
  ok : d.Ok
/-- What a call does: it writes to the device's blocks alone; the device may get new ones. -/
structure Step (p p' : Pl) (w w' : World) : Prop where
  D : p'.D = p.D
  upd : Upd (own p) w w'
  has : ∀ k, own p' k → own p k ∨ w.heap.size ≤ k
section
variable {w w' w'' : World} {p p' p'' q : Pl} {d e : Dv}
theorem DevAt.lt (h : DevAt w p d) : ∀ k, own p k → k < w.heap.size := by
  rintro k (rfl | rfl | hk)
  · exact h.dev.lt
  · exact (h.safe.lt _ rfl).2
  · exact (h.cache.lt _ hk).2
theorem DevAt.typed (h : DevAt w p d) : ∀ k, own p k → ∃ cs fr T, w.heap[k]? = some (.cells cs T fr) ∧ (T = 53 ∨ T = 94 ∨ T = 96) := by
  rintro k (rfl | rfl | hk)
  · exact ⟨_, _, _, h.dev, .inl rfl⟩
  · rcases h.safe.2 with ⟨e, _⟩ | ⟨g, cap, cur, e, _, hh, _⟩
    · cases e
    · cases e; exact ⟨_, _, _, hh, .inr (.inl rfl)⟩
  · rcases h.cache.2 with ⟨e, _⟩ | ⟨g, cap, cur, e, _, hh, _⟩
    · rw [e] at hk; cases hk
    · rw [e] at hk; cases hk; exact ⟨_, _, _, hh, .inr (.inr rfl)⟩
theorem DevAt.not1 (h : DevAt w p d) {b : Nat} {cs : Array Value} (hb : At 3 w b cs) : ¬ own p b := fun ho => by
  obtain ⟨cs', fr, T, h1, h2⟩ := h.typed b ho
  unfold At at hb
  rw [hb] at h1
  cases h1
  rcases h2 with e | e | e <;> exact absurd e (by decide)
/-- A device is as it was where none of its blocks is written to. -/
theorem DevAt.upd {O : Nat → Prop} (h : DevAt w p d) (hu : Upd O w w') (ho : ∀ k, own p k → ¬ O k) (h1 : ¬ O p.B1) (h2 : ¬ O p.B2) : DevAt w' p d :=
  ⟨h.dev.upd hu (ho _ (.inl rfl)), h.b1.upd hu h1, h.b2.upd hu h2, ownsRow_upd h.safe hu (fun k e => ho k (.inr (.inl (by cases e; rfl)))), ownsRow_upd h.cache hu (fun k e => ho k (.inr (.inr e))), h.ok⟩
theorem DevAt.below (h : DevAt w p d) (hb : Below w.heap.size w w') : DevAt w' p d := h.upd (Upd.of hb (fun _ => False)) (fun _ _ q => q) (fun q => q) (fun q => q)
theorem DevAt.alloc (h : DevAt w p d) (o : Obj) : DevAt (w.alloc o) p d := h.below ((Below.refl _ _).alloc (Nat.le_refl _) o)
theorem DevAt.drew (h : DevAt w p d) : DevAt w.drew p d := h.below ((Below.refl _ _).drew)
/-- Another device is as it was. -/
theorem DevAt.step (h : DevAt w q e) (hp : DevAt w p d) (hs : Step p p' w w') (ha : ∀ k, own q k → ¬ own p k) : DevAt w' q e :=
  h.upd hs.upd ha (hp.not1 h.b1) (hp.not1 h.b2)
theorem Step.refl (p : Pl) (w : World) : Step p p w w := ⟨rfl, Upd.refl _ _, fun k h => .inl h⟩
theorem Step.of (p : Pl) (h : Below w.heap.size w w') : Step p p w w' := ⟨rfl, Upd.of h _, fun k h => .inl h⟩
theorem Step.trans (h : Step p p' w w') (k : Step p' p'' w' w'') : Step p p'' w w'' :=
  ⟨k.D.trans h.D, h.upd.trans k.upd h.has, fun j hj => by
    rcases k.has j hj with q | q
    · exact h.has j q
    · exact .inr (Nat.le_trans h.upd.size q)⟩
theorem Step.fresh {B : Nat} (h : Step p p' w w') (hp : ∀ k, own p k → B ≤ k) (hB : B ≤ w.heap.size) : ∀ k, own p' k → B ≤ k := fun k hk => by
  rcases h.has k hk with q | q
  · exact hp k q
  · omega
theorem Step.below {B : Nat} (h : Step p p' w w') (hp : ∀ k, own p k → B ≤ k) (hB : B ≤ w.heap.size) : Below B w w' := h.upd.below hp hB
theorem Step.apart (h : Step p p' w w') (hq : DevAt w q e) (ha : ∀ k, own q k → ¬ own p k) : ∀ k, own q k → ¬ own p' k := fun k hk hk' => by
  rcases h.has k hk' with r | r
  · exact ha k hk r
  · have := hq.lt k hk; omega
end
end Go.Proofs.Ytpcbolmidnoaiaa
