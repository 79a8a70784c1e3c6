/- The document's device in memory. -/
import Derived.Test.YteopbeafhhfdoaaDCount
import Derived.Maps.Own
import Derived.Maps.Ext
set_option linter.unusedVariables false
set_option linter.unusedSimpArgs false
namespace Go.Proofs.Yteopbeafhhfdoaa
open Go.RowKit Go.Maps
/-- A map's element is told as the value itself. -/
def hR (v : Value) : Option (DataW Value × List MemPlace) := some (.held v, [])
theorem key_law : Keyed Try.prog 3 := int_keyed Try.underlying3
/-- How many calls of the plan are left; 0: there is no plan. -/
def leftP (d : Dv) : Int := if d.num = 0 then 0 else d.num - (d.calls - d.frm)
structure Rl where
  D : Nat
  M : Nat
  vC : Value
  vs : List (Int × Value)
  u : Nat
  G : Nat → Prop
def rown (q : Rl) (k : Nat) : Prop := k = q.D ∨ k = q.M ∨ q.vC.ownBlock = some k
def rcells (x : Int × Value) : List Value := [.int .i64 x.1, x.2]
abbrev nilV : Value := .slice none 0 0
/-- What is kept of a sector: nothing, and then it is full of zeros; or its bytes. -/
def SecV (w : World) (v : Value) (L : List Int) : Prop := v = nilV ∧ L = List.replicate 128 0 ∨ Own8 0 w v L ∧ L.length = 128
/-- None of these blocks. -/
def Off (G : Nat → Prop) (v : Value) : Prop := ∀ k, v.ownBlock = some k → ¬ G k
def MapAt (G : Nat → Prop) (w : World) (M u : Nat) (s : List (List Int)) : Prop :=
  ∃ D, w.ownsMap Try.prog 3 hR M u D ∧ ∀ n : Nat, n < s.length → ∃ v, D.atKey (.int .i64 (n : Int)) (.held nilV) = .held v ∧ SecV w v (s.getD n []) ∧ Off G v
structure RefAt (w : World) (q : Rl) (d : Dv) : Prop where
  dev : At 42 w q.D #[.int .i64 d.safe.length, .map (some q.M), q.vC, .int .i64 (leftP d), .bool d.down, .int .i64 d.calls]
  map : MapAt q.G w q.M q.u d.safe
  cache : w.ownsRow 0 47 2 q.vC q.vs.length (q.vs.map rcells).flatten
  len : q.vs.length = d.cache.length
  rows : ∀ k (h : k < q.vs.length) (h' : k < d.cache.length), q.vs[k].1 = d.cache[k].1 ∧ Own8 0 w q.vs[k].2 d.cache[k].2 ∧ Off q.G q.vs[k].2
  ok : d.Ok
  low : ∀ k, q.G k → k < w.heap.size
structure RStep (q q' : Rl) (w w' : World) : Prop where
  D : (q'.D, q'.G) = (q.D, q.G)
  upd : Upd (rown q) w w'
  has : ∀ k, rown q' k → rown q k ∨ w.heap.size ≤ k
  u : q'.u ≤ q.u + 256
theorem own8_upd {O : Nat → Prop} {X Y : World} {v : Value} {xs : List Int} (h : Own8 0 X v xs) (hu : Upd O X Y) {G : Nat → Prop} (hg : Off G v) (hn : ∀ k cs fr, X.heap[k]? = some (.cells cs 5 fr) → ¬ G k → ¬ O k) : Own8 0 Y v xs := by
  refine ⟨h.1, ownsRow_upd h.2 hu fun k hk => ?_⟩
  rcases h.2.2 with ⟨e, _⟩ | ⟨g, cap, cur, e, _, hh, _⟩
  · rw [e] at hk; cases hk
  · rw [e] at hk; cases hk; exact hn _ _ _ hh (hg _ (by rw [e]; rfl))
theorem secV_upd {O : Nat → Prop} {X Y : World} {v : Value} {xs : List Int} (h : SecV X v xs) (hu : Upd O X Y) {G : Nat → Prop} (hg : Off G v) (hn : ∀ k cs fr, X.heap[k]? = some (.cells cs 5 fr) → ¬ G k → ¬ O k) : SecV Y v xs := by
  rcases h with h | h
  · exact .inl h
  · exact .inr ⟨own8_upd h.1 hu hg hn, h.2⟩
theorem map_upd {O : Nat → Prop} {G : Nat → Prop} {X Y : World} {M u : Nat} {s : List (List Int)} (h : MapAt G X M u s) (hu : Upd O X Y) (hM : ¬ O M) (hn : ∀ k cs fr, X.heap[k]? = some (.cells cs 5 fr) → ¬ G k → ¬ O k) : MapAt G Y M u s := by
  obtain ⟨D, ⟨es, cl, hb, r⟩, hs⟩ := h
  refine ⟨D, ⟨es, cl, (hu.block M (Array.getElem?_eq_some_iff.1 hb).1 hM).trans hb, r⟩, fun n hl => ?_⟩
  obtain ⟨v, h1, h2, h3⟩ := hs n hl
  exact ⟨v, h1, secV_upd h2 hu h3 hn, h3⟩
section
variable {w w' w'' : World} {q q' q'' : Rl} {d e : Dv}
theorem RefAt.typed (h : RefAt w q d) : ∀ k, rown q k → (∃ cs fr T, w.heap[k]? = some (.cells cs T fr) ∧ (T = 42 ∨ T = 47)) ∨ ∃ es c, w.heap[k]? = some (.map es c) := by
  rintro k (rfl | rfl | hk)
  · exact .inl ⟨_, _, _, h.dev, .inl rfl⟩
  · obtain ⟨D, ⟨es, cl, hb, r⟩, hs⟩ := h.map
    exact .inr ⟨_, _, hb⟩
  · rcases h.cache.2 with ⟨e, _⟩ | ⟨g, cap, cur, e, _, hh, _⟩
    · rw [e] at hk; cases hk
    · rw [e] at hk; cases hk; exact .inl ⟨_, _, _, hh, .inr rfl⟩
theorem RefAt.lt (h : RefAt w q d) : ∀ k, rown q k → k < w.heap.size := by
  intro k hk
  rcases h.typed k hk with ⟨_, _, _, e, _⟩ | ⟨_, _, e⟩ <;> exact (Array.getElem?_eq_some_iff.1 e).1
theorem RefAt.not8 (h : RefAt w q d) {b : Nat} {cs : Array Value} {fr : Nat × Nat} (hb : w.heap[b]? = some (.cells cs 5 fr)) : ¬ rown q b := fun ho => by
  rcases h.typed b ho with ⟨cs', fr', T, h1, h2⟩ | ⟨_, _, h1⟩
  · rw [hb] at h1
    cases h1
    rcases h2 with e | e <;> exact absurd e (by decide)
  · rw [hb] at h1; cases h1
theorem RefAt.upd {O : Nat → Prop} (h : RefAt w q d) (hu : Upd O w w') (ho : ∀ k, rown q k → ¬ O k) (h8 : ∀ k cs fr, w.heap[k]? = some (.cells cs 5 fr) → ¬ q.G k → ¬ O k) : RefAt w' q d :=
  ⟨h.dev.upd hu (ho _ (.inl rfl)), map_upd h.map hu (ho _ (.inr (.inl rfl))) h8, ownsRow_upd h.cache hu (fun k e => ho k (.inr (.inr e))), h.len, fun k a b => ⟨(h.rows k a b).1, own8_upd (h.rows k a b).2.1 hu (h.rows k a b).2.2 h8, (h.rows k a b).2.2⟩, h.ok, fun k hk => Nat.lt_of_lt_of_le (h.low k hk) hu.size⟩
theorem RefAt.below (h : RefAt w q d) (hb : Below w.heap.size w w') : RefAt w' q d := h.upd (Upd.of hb (fun _ => False)) (fun _ _ q => q) (fun _ _ _ _ _ q => q)
theorem RefAt.alloc (h : RefAt w q d) (o : Obj) : RefAt (w.alloc o) q d := h.below ((Below.refl _ _).alloc (Nat.le_refl _) o)
theorem RefAt.drew (h : RefAt w q d) : RefAt w.drew q d := h.below ((Below.refl _ _).drew)
theorem off_fresh {v : Value} {L : List Int} (h : RefAt w q d) (ho : Own8 w.heap.size w' v L) : Off q.G v := fun k hk hg => by
  have hl := h.low k hg
  rcases ho.2.2 with ⟨e, _⟩ | ⟨g, cap, cur, e, hb, _⟩
  · rw [e] at hk; cases hk
  · have e2 : g = k := by rw [e] at hk; exact Option.some.inj hk
    omega
theorem off_old {v : Value} {L : List Int} (ho : Own8 0 w v L) {G : Nat → Prop} (hG : ∀ k, G k → w.heap.size ≤ k) : Off G v := fun k hk hg => by
  have hl := hG k hg
  rcases ho.2.2 with ⟨e, _⟩ | ⟨g, cap, cur, e, _, hb, _⟩
  · rw [e] at hk; cases hk
  · have e2 : g = k := by rw [e] at hk; exact Option.some.inj hk
    have := (Array.getElem?_eq_some_iff.1 hb).1; omega
/-- Blocks that were not there when the device's rows were are none of these. -/
theorem RefAt.re (h : RefAt w q d) (hb : Below w.heap.size w w') (G : Nat → Prop) (h1 : ∀ k, G k → w.heap.size ≤ k) (h2 : ∀ k, G k → k < w'.heap.size) : RefAt w' { q with G := G } d := by
  have h' := h.below hb
  refine ⟨h'.dev, ?_, h'.cache, h'.len, fun k a b => ⟨(h'.rows k a b).1, (h'.rows k a b).2.1, off_old (h.rows k a b).2.1 h1⟩, h'.ok, h2⟩
  obtain ⟨D, h3, h4⟩ := h.map
  obtain ⟨es, cl, hbl, r⟩ := h3
  refine ⟨D, ⟨es, cl, (hb.block q.M (Array.getElem?_eq_some_iff.1 hbl).1).trans hbl, r⟩, fun n hn => ?_⟩
  obtain ⟨v, a1, a2, a3⟩ := h4 n hn
  refine ⟨v, a1, ?_, ?_⟩
  · rcases a2 with a2 | a2
    · exact .inl a2
    · exact .inr ⟨own8_upd a2.1 (Upd.of hb (fun _ => False)) (G := fun _ => False) (fun _ _ q => q) (fun _ _ _ _ _ q => q), a2.2⟩
  · rcases a2 with ⟨rfl, _⟩ | a2
    · exact fun k hk => by cases hk
    · exact off_old a2.1 h1
/-- The blocks of a document's device are apart from one another. -/
theorem RefAt.apart (h : RefAt w q d) : q.D ≠ q.M ∧ ∀ k, q.vC.ownBlock = some k → k ≠ q.D ∧ k ≠ q.M := by
  have hd := h.dev
  obtain ⟨D, ⟨es, cl, hb, r⟩, hs⟩ := h.map
  unfold At at hd
  refine ⟨fun e => ?_, fun k hk => ?_⟩
  · rw [e, hb] at hd; cases hd
  · rcases h.cache.2 with ⟨e, _⟩ | ⟨g, cap, cur, e, _, hh, _⟩
    · rw [e] at hk; cases hk
    · rw [e] at hk; cases hk
      exact ⟨fun e => by have e' : g = q.D := e; rw [e', hd] at hh; simp at hh, fun e => by have e' : g = q.M := e; rw [e', hb] at hh; cases hh⟩
theorem RStep.refl (q : Rl) (w : World) : RStep q q w w := ⟨rfl, Upd.refl _ _, fun k h => .inl h, by omega⟩
theorem RStep.of (q : Rl) (h : Below w.heap.size w w') : RStep q q w w' := ⟨rfl, Upd.of h _, fun k h => .inl h, by omega⟩
/-- A field of the device is written to. -/
theorem RefAt.field (h : RefAt w q d) (hu : Upd (fun k => k = q.D) w w') (hd : At 42 w' q.D #[.int .i64 e.safe.length, .map (some q.M), q.vC, .int .i64 (leftP e), .bool e.down, .int .i64 e.calls])
    (hs : e.safe = d.safe) (hc : e.cache = d.cache) (ho : e.Ok) : RefAt w' q e := by
  obtain ⟨a1, a2⟩ := h.apart
  have h8 : ∀ k cs fr, w.heap[k]? = some (.cells cs 5 fr) → ¬ q.G k → ¬ (k = q.D) := fun k cs fr hk _ e => h.not8 hk (.inl e)
  refine ⟨hd, ?_, ownsRow_upd h.cache hu (fun k e => (a2 k e).1), by rw [hc]; exact h.len, ?_, ho, fun k hk => Nat.lt_of_lt_of_le (h.low k hk) hu.size⟩
  · rw [hs]; exact map_upd h.map hu (fun e => a1 e.symm) h8
  · rw [hc]; exact fun k a b => ⟨(h.rows k a b).1, own8_upd (h.rows k a b).2.1 hu (h.rows k a b).2.2 h8, (h.rows k a b).2.2⟩
end
end Go.Proofs.Yteopbeafhhfdoaa
