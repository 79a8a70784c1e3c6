/- Rows of versions, and of prices, that a call makes. -/
import Derived.Test.YthlpigffjbhmoaaDoorVOpen
import Derived.Maps.OwnIn
import Derived.Laws.OwnMore
import Derived.Lib.AppendZeros
set_option linter.unusedVariables false
set_option linter.unusedSimpArgs false
namespace Go.Proofs.YthlpigffjbhmoaaDoor
open Go.RowKit Go.Shelf
/-- A version as it lies in memory. -/
structure Rw where
  f : Int
  a : Option Addr
  n : Nat
  c : Nat
def rw0 : Rw := ⟨0, none, 0, 0⟩
def valsE (xs : List Rw) : List Value := xs.flatMap fun r => [.int .i64 r.f, .slice r.a r.n r.c]
theorem valsE_len (xs : List Rw) : (valsE xs).length = xs.length * 2 := by
  induction xs with
  | nil => rfl
  | cons s xs ih => unfold valsE at ih ⊢; simp only [List.flatMap_cons, List.length_append, List.length_cons, List.length_nil, ih]; omega
theorem valsE_app (xs ys : List Rw) : valsE xs ++ valsE ys = valsE (xs ++ ys) := by simp [valsE]
theorem valsE_one {xs : List Rw} : ∀ u ∈ valsE xs, u.oneCell' = true := by
  intro u hu
  simp only [valsE, List.mem_flatMap] at hu
  obtain ⟨r, _, hr⟩ := hu
  simp at hr
  rcases hr with rfl | rfl <;> rfl
theorem valsE_get {xs : List Rw} {j : Nat} {r : Rw} (h : xs[j]? = some r) : (valsE xs)[j * 2]? = some (.int .i64 r.f) ∧ (valsE xs)[j * 2 + 1]? = some (.slice r.a r.n r.c) := by
  induction xs generalizing j with
  | nil => simp at h
  | cons s xs ih =>
    cases j with
    | zero => simp at h; subst h; simp [valsE]
    | succ j =>
      have := ih (j := j) (by simpa using h)
      rw [show (j + 1) * 2 = j * 2 + 1 + 1 by omega]
      simpa [valsE] using this
/-- The rows lie from a on, in a block below B. -/
def RwsAt (B : Nat) (W : World) (a : Option Addr) (xs : List Rw) : Prop :=
  ∀ i r, xs[i]? = some r → ∃ b o, a = some ⟨b, o, none⟩ ∧ b < B ∧ W.cell? ⟨b, o + i * 2, none⟩ = some (.int .i64 r.f) ∧ W.cell? ⟨b, o + i * 2 + 1, none⟩ = some (.slice r.a r.n r.c)
theorem RwsAt.next {B n : Nat} {W X : World} {a : Option Addr} {xs : List Rw} (h : RwsAt B W a xs) (hB : Below n W X) (hn : B ≤ n) : RwsAt B X a xs := by
  intro i r hi
  obtain ⟨b, o, e, hb, h0, h1⟩ := h i r hi
  have hx : ∀ k, X.cell? ⟨b, k, none⟩ = W.cell? ⟨b, k, none⟩ := fun k => hB.cell (p := ⟨b, k, none⟩) (by show b < n; omega)
  exact ⟨b, o, e, hb, (hx _).trans h0, (hx _).trans h1⟩
theorem RwsAt.mono {B B' : Nat} {W : World} {a : Option Addr} {xs : List Rw} (h : RwsAt B W a xs) (hB : B ≤ B') : RwsAt B' W a xs := fun i r hi => by
  obtain ⟨b, o, e, hb, k⟩ := h i r hi; exact ⟨b, o, e, by omega, k⟩
/-- The cells of rows. -/
theorem RwsAt.cells {B : Nat} {W : World} {b o : Nat} {xs : List Rw} (h : RwsAt B W (some ⟨b, o, none⟩) xs) : ∀ j u, (valsE xs)[j]? = some u → W.cell? ((⟨b, o, none⟩ : Addr).add j) = some u := by
  intro j u hj
  have hl : j < xs.length * 2 := by
    have := (List.getElem?_eq_some_iff.1 hj).1
    rwa [valsE_len] at this
  obtain ⟨i, r, hr, rfl⟩ : ∃ i r, r < 2 ∧ j = i * 2 + r := ⟨j / 2, j % 2, by omega, by omega⟩
  obtain ⟨x, hx⟩ : ∃ x, xs[i]? = some x := ⟨_, List.getElem?_eq_getElem (by omega)⟩
  obtain ⟨e0, e1⟩ := valsE_get hx
  obtain ⟨b', o', e, _, c0, c1⟩ := h i x hx
  cases e
  rcases (by omega : r = 0 ∨ r = 1) with rfl | rfl
  · rw [Nat.add_zero, e0] at hj; cases hj; rw [Nat.add_zero, Addr.add_mid]; exact c0
  · rw [e1] at hj; cases hj; rw [Addr.add_mid, ← Nat.add_assoc]; exact c1
/-- A row's prices. -/
def PrOf (W : World) (g : Nat) (r : Rw) (v : Ve) : Prop :=
  r.f = v.f ∧ r.n = v.ps.length ∧ (r.n ≤ r.c ∧ r.c ≤ maxLen) ∧ ∀ i p, v.ps[i]? = some p → ∃ b o, r.a = some ⟨b, o, none⟩ ∧ b < W.heap.size ∧ b ≠ g ∧ W.cell? ⟨b, o + i, none⟩ = some (.int .i64 p)
theorem PrOf.kept {W X : World} {g : Nat} {r : Rw} {v : Ve} (h : PrOf W g r v) (hs : W.heap.size ≤ X.heap.size) (hk : ∀ k, k < W.heap.size → k ≠ g → X.heap[k]? = W.heap[k]?) : PrOf X g r v := by
  obtain ⟨h1, h2, h3, h4⟩ := h
  refine ⟨h1, h2, h3, fun i p hp => ?_⟩
  obtain ⟨b, o, e, hb, hn, hc⟩ := h4 i p hp
  exact ⟨b, o, e, by omega, hn, (World.cell?_of_block (a := ⟨b, o + i, none⟩) (hk b hb hn)).trans hc⟩
/-- The rows are the versions. -/
def RwIs (W : World) (g : Nat) (xs : List Rw) (l : List Ve) : Prop := xs.length = l.length ∧ ∀ (i : Nat) (r : Rw) (v : Ve), xs[i]? = some r → l[i]? = some v → PrOf W g r v
theorem RwIs.kept {W X : World} {g : Nat} {xs : List Rw} {l : List Ve} (h : RwIs W g xs l) (hs : W.heap.size ≤ X.heap.size) (hk : ∀ k, k < W.heap.size → k ≠ g → X.heap[k]? = W.heap[k]?) : RwIs X g xs l :=
  ⟨h.1, fun i r v hr hv => (h.2 i r v hr hv).kept hs hk⟩
theorem RwIs.below {W X : World} {g : Nat} {xs : List Rw} {l : List Ve} (h : RwIs W g xs l) (hB : Below W.heap.size W X) : RwIs X g xs l := h.kept hB.size (fun k hk _ => hB.block k hk)
theorem RwIs.nil {W : World} {g : Nat} : RwIs W g [] [] := ⟨rfl, fun i r v h => by simp at h⟩
theorem RwIs.app {W : World} {g : Nat} {xs ys : List Rw} {l m : List Ve} (h : RwIs W g xs l) (k : RwIs W g ys m) : RwIs W g (xs ++ ys) (l ++ m) := by
  refine ⟨by rw [List.length_append, List.length_append, h.1, k.1], fun i r v hr hv => ?_⟩
  have e := h.1
  by_cases hi : i < xs.length
  · rw [List.getElem?_append_left hi] at hr
    rw [List.getElem?_append_left (by omega)] at hv
    exact h.2 i r v hr hv
  · rw [List.getElem?_append_right (by omega)] at hr
    rw [List.getElem?_append_right (by omega), ← e] at hv
    exact k.2 _ r v hr hv
theorem RwIs.one {W : World} {g : Nat} {r : Rw} {v : Ve} (h : PrOf W g r v) : RwIs W g [r] [v] := by
  refine ⟨rfl, fun i r' v' hr hv => ?_⟩
  cases i with
  | zero => simp at hr hv; subst hr; subst hv; exact h
  | succ i => simp at hr
/-- What lies as a table, as rows. -/
theorem rows_of {B : Nat} {W : World} {a : Option Addr} {l : List Ve} (h : VesAt B W a l) (hB : B ≤ W.heap.size) : ∃ xs, RwsAt B W a xs ∧ xs.length = l.length ∧ ∀ g, B ≤ g → RwIs W g xs l := by
  have each : ∀ i : Nat, ∃ r : Rw, ∀ v, l[i]? = some v → (∃ b o, a = some ⟨b, o, none⟩ ∧ b < B ∧ W.cell? ⟨b, o + i * 2, none⟩ = some (.int .i64 r.f) ∧ W.cell? ⟨b, o + i * 2 + 1, none⟩ = some (.slice r.a r.n r.c)) ∧ ∀ g, B ≤ g → PrOf W g r v := by
    intro i
    cases hv : l[i]? with
    | none => exact ⟨rw0, fun v h => by cases h⟩
    | some v =>
      obtain ⟨b, o, a', c', e, hb, h0, h1, hc, hp⟩ := h i v hv
      refine ⟨⟨v.f, a', v.ps.length, c'⟩, fun u hu => ?_⟩
      cases hu
      refine ⟨⟨b, o, e, hb, h0, h1⟩, fun g hg => ⟨rfl, rfl, hc, fun j p hj => ?_⟩⟩
      obtain ⟨b', o', e', hb', k⟩ := hp j p hj
      exact ⟨b', o', e', by omega, by omega, k⟩
  obtain ⟨R, hR⟩ := Classical.axiomOfChoice each
  have hl : ((List.range l.length).map R).length = l.length := by simp
  have hget : ∀ i r, ((List.range l.length).map R)[i]? = some r → i < l.length ∧ r = R i := fun i r hr => by
    obtain ⟨h, e⟩ := List.getElem?_eq_some_iff.1 hr
    simp at h e
    exact ⟨h, e.symm⟩
  refine ⟨(List.range l.length).map R, fun i r hr => ?_, hl, fun g hg => ⟨hl, fun i r v hr hv => ?_⟩⟩
  · obtain ⟨hi, rfl⟩ := hget i r hr
    exact (hR i _ (List.getElem?_eq_getElem hi)).1
  · obtain ⟨hi, rfl⟩ := hget i r hr
    exact (hR i v hv).2 g hg
/-- The slice value v is the call's own row of just these rows, in a block from 'base' on; or nil, and there are none. -/
def OwnE (base : Nat) (w : World) (v : Value) (xs : List Rw) : Prop := w.ownsRow base 42 2 v xs.length (valsE xs)
theorem OwnE.nil (base : Nat) (w : World) : OwnE base w (.slice none 0 0) [] := ⟨by simp [valsE], .inl ⟨rfl, rfl⟩⟩
theorem OwnE.form {base : Nat} {w : World} {v : Value} {xs : List Rw} (h : OwnE base w v xs) : ∃ a c, v = .slice a xs.length c ∧ xs.length ≤ c ∧ c ≤ maxLen := by
  rcases h.2 with ⟨rfl, e⟩ | ⟨g, cap, cur, rfl, hg, hh, h1, h2, _⟩
  · exact ⟨none, 0, by rw [e], by omega, by unfold maxLen; omega⟩
  · exact ⟨_, cap, rfl, h1, h2⟩
theorem OwnE.row {base : Nat} {w : World} {v : Value} {xs : List Rw} (h : OwnE base w v xs) : ∀ k, v.ownBlock = some k → base ≤ k ∧ k < w.heap.size := by
  intro k hk
  rcases h.2 with ⟨rfl, e⟩ | ⟨g, cap, cur, rfl, hg, hh, _⟩
  · simp [Value.ownBlock] at hk
  · simp [Value.ownBlock] at hk; subst hk; exact ⟨hg, (Array.getElem?_eq_some_iff.1 hh).1⟩
theorem OwnE.kept {base : Nat} {w w' : World} {v : Value} {xs : List Rw} (h : OwnE base w v xs) (hb : ∀ k, v.ownBlock = some k → w'.heap[k]? = w.heap[k]?) : OwnE base w' v xs := by
  refine ⟨h.1, ?_⟩
  rcases h.2 with e | ⟨g, cap, cur, rfl, hg, hh, r⟩
  · exact .inl e
  · exact .inr ⟨g, cap, cur, rfl, hg, (hb g rfl).trans hh, r⟩
theorem OwnE.below {base B : Nat} {w w' : World} {v : Value} {xs : List Rw} (h : OwnE base w v xs) (hb : Below B w w') (hB : w.heap.size ≤ B) : OwnE base w' v xs := h.kept (fun k hk => hb.block k (by have := h.row k hk; omega))
theorem OwnE.ves {base n c g : Nat} {a : Option Addr} {w : World} {xs : List Rw} {l : List Ve} (h : OwnE base w (.slice a n c) xs) (hr : RwIs w g xs l) : VesAt w.heap.size w a l := by
  intro i v hv
  have hi : i < xs.length := by rw [hr.1]; exact (List.getElem?_eq_some_iff.1 hv).1
  have hx : xs[i]? = some xs[i] := List.getElem?_eq_getElem hi
  obtain ⟨k1, k2, k3, k4⟩ := hr.2 i _ v hx hv
  rcases h.2 with ⟨e, e2⟩ | ⟨g', cap, cur, e, hg, hb, hn, hm, hs, ht⟩
  · omega
  · cases e
    obtain ⟨e0, e1⟩ := valsE_get hx
    rw [← ht, List.getElem?_take_of_lt (by omega)] at e0 e1
    refine ⟨g', 0, xs[i].a, xs[i].c, rfl, (Array.getElem?_eq_some_iff.1 hb).1, ?_, ?_, ?_, ?_⟩
    · simp only [World.cell?, hb, Nat.zero_add]; rw [← k1]; simpa using e0
    · simp only [World.cell?, hb, Nat.zero_add]; rw [← k2]; simpa using e1
    · rw [← k2]; exact k3
    · intro j p hp
      obtain ⟨b, o, e, hb', _, hc⟩ := k4 j p hp
      exact ⟨b, o, e, hb', hc⟩
theorem infoE : (Tryd.prog.info? 42).map (fun i => (i.zero, i.size, i.bytes)) = some (some (.agg #[.int .i64 0, .slice none 0 0]), 2, 32) := by kernel_rfl
theorem partsE : ∃ i, Tryd.prog.info? 42 = some i ∧ i.zero = some (.agg #[.int .i64 0, .slice none 0 0]) ∧ i.size = 2 ∧ i.bytes = 32 := by
  have h := infoE
  cases hi : Tryd.prog.info? 42 with
  | none => rw [hi] at h; cases h
  | some i => rw [hi] at h; simp at h; exact ⟨i, rfl, h.1, h.2.1, h.2.2⟩
/-- Appending rows that lie somewhere. -/
theorem wpList_OwnE {w : World} {ops : Array Oper} {rest : List Oper} {o : Oper} {a : Act} {Q : Exit → Act → World → Prop} (hgd : o.guard = none) (s x : Operand)
    (ho : o.op = .call { callee := .builtin .append, args := #[s, x], argTypes := #[22, 22] })
    (base : Nat) (v : Value) (ls : List Rw) (hs : a.eval s = v) (hown : OwnE base w v ls) (ad : Addr) (m c : Nat) (zs : List Rw) (hx : a.eval x = .slice (some ad) m c) (hm : zs.length = m) (hz : ∀ j u, (valsE zs)[j]? = some u → w.cell? (ad.add j) = some u)
    (N : Nat) (hN : ls.length + m = N) (hlen : N ≤ 1000000) (hbase : base ≤ w.heap.size)
    (h : ∀ a' c' w', OwnE base w' (.slice a' N c') (ls ++ zs) → w.grownBy w' v.ownBlock → wpList Tryd.prog ops Q rest (a.put o.dst (.slice a' N c')) w') : wpList Tryd.prog ops Q (o :: rest) a w := by
  obtain ⟨i, hi, hzz, hsz, hby⟩ := partsE
  refine wpList_append_own w hgd s x _ ho base 42 i _ 2 32 Tryd.underlying22 hi hzz hsz hby rfl (by decide) v ls.length (valsE ls) hs hown ad m c (valsE zs) hx (by rw [valsE_len, hm]) hz valsE_one (by unfold maxLen; omega) (by omega) hbase ?_
  intro v' w' h2 h3 _
  have hO : OwnE base w' v' (ls ++ zs) := by
    have e := valsE_app ls zs
    unfold OwnE
    rw [← e, List.length_append, hm]
    exact h2
  obtain ⟨a', c', rfl, _⟩ := hO.form
  rw [show (ls ++ zs).length = N by rw [List.length_append, hm, hN]] at hO ⊢
  exact h a' c' w' hO h3
/-- Appending an empty slice to a row of the call's own. -/
theorem run_append_zero {w : World} {t e ty : TypeId} {i : TypeInfo} (ht : Tryd.prog.underlying t = some (.slice e)) (hi : Tryd.prog.info? e = some i) {b : Addr} {n cap c : Nat} {x : Option Addr} (hn : n ≤ cap) :
    (Builtin.append_ #[t, t] ty #[.slice (some b) n cap, .slice x 0 c]).run Tryd.prog w = .ok (.slice (some b) n cap) w := by
  have hsz : (sizeOf e).run Tryd.prog w = .ok i.size w := by simp [sizeOf, typeInfo, hi]
  cases x with
  | none => simp [Builtin.append_, run_underlying ht, hsz, Builtin.lenOf, Builtin.firstCells, hn, storeCells]
  | some x => simp [Builtin.append_, run_underlying ht, hsz, Builtin.lenOf, Builtin.firstCells, hn, storeCells, loadCells, loadCellsFrom]
/-- Appending rows that lie somewhere, in a region that draws its order. -/
theorem wpR_OwnE {w : World} {o : Oper} {a : Act} {K : Act → World → Prop} {Q : Exit → Act → World → Prop} (hgd : o.guard = none) (s x : Operand)
    (ho : o.op = .call { callee := .builtin .append, args := #[s, x], argTypes := #[22, 22] })
    (base : Nat) (v : Value) (ls : List Rw) (hs : a.eval s = v) (hown : OwnE base w v ls) (ad : Addr) (m c : Nat) (zs : List Rw) (hx : a.eval x = .slice (some ad) m c) (hm : zs.length = m) (hz : ∀ j u, (valsE zs)[j]? = some u → w.cell? (ad.add j) = some u)
    (N : Nat) (hN : ls.length + m = N) (hlen : N ≤ 1000000) (hbase : base ≤ w.heap.size)
    (h : ∀ a' c' w', OwnE base w' (.slice a' N c') (ls ++ zs) → w.grownBy w' v.ownBlock → K (a.put o.dst (.slice a' N c')) w') :
    o.wp Tryd.prog a w K Q := by
  obtain ⟨i, hi, hzz, hsz, hby⟩ := partsE
  obtain ⟨v', w', hr, h2, h3, h4, h5⟩ := run_append_own_at (P := Tryd.prog) w base _ o.type 42 i _ 2 32 Tryd.underlying22 hi hzz hsz hby rfl (by decide) v ls.length (valsE ls) hown ad m c (valsE zs) (by rw [valsE_len, hm]) hz valsE_one (by unfold maxLen; omega) (by omega) hbase
  have hO : OwnE base w' v' (ls ++ zs) := by
    have e := valsE_app ls zs
    unfold OwnE
    rw [← e, List.length_append, hm]
    exact h2
  obtain ⟨a', c', rfl, _⟩ := hO.form
  rw [show (ls ++ zs).length = N by rw [List.length_append, hm, hN]] at hO hr
  have hk := h a' c' w' hO h3
  unfold Oper.wp
  simp [execOp, ho, resolve, invoke, builtin, hs, hx, hr, Result.andThen, Oper.upon]
  simpa using hk
/-- The cells of one row in a block of its own. -/
theorem one_cells {w : World} {g : Nat} {z : Rw} (h0 : w.cell? ⟨g, 0, none⟩ = some (.int .i64 z.f)) (h1 : w.cell? ⟨g, 1, none⟩ = some (.slice z.a z.n z.c)) : ∀ j u, (valsE [z])[j]? = some u → w.cell? ((⟨g, 0, none⟩ : Addr).add j) = some u := fun j u hj => by
  match j, hj with
  | 0, hj => simp [valsE] at hj; subst hj; simpa [Addr.add] using h0
  | 1, hj => simp [valsE] at hj; subst hj; simpa [Addr.add] using h1
  | j + 2, hj => simp [valsE] at hj
/-- The slice value v is the call's own row of just these prices. -/
def valsP (ps : List Int) : List Value := ps.map fun p => .int .i64 p
def OwnP (base : Nat) (w : World) (v : Value) (ps : List Int) : Prop := w.ownsRow base 2 1 v ps.length (valsP ps)
theorem valsP_one {ps : List Int} : ∀ u ∈ valsP ps, u.oneCell' = true := by
  intro u hu
  obtain ⟨p, _, rfl⟩ := List.mem_map.1 hu
  rfl
theorem OwnP.nil (base : Nat) (w : World) : OwnP base w (.slice none 0 0) [] := ⟨by simp [valsP], .inl ⟨rfl, rfl⟩⟩
theorem OwnP.form {base : Nat} {w : World} {v : Value} {ps : List Int} (h : OwnP base w v ps) : ∃ a c, v = .slice a ps.length c ∧ ps.length ≤ c ∧ c ≤ maxLen := by
  rcases h.2 with ⟨rfl, e⟩ | ⟨g, cap, cur, rfl, hg, hh, h1, h2, _⟩
  · exact ⟨none, 0, by rw [e], by omega, by unfold maxLen; omega⟩
  · exact ⟨_, cap, rfl, h1, h2⟩
theorem OwnP.row {base : Nat} {w : World} {v : Value} {ps : List Int} (h : OwnP base w v ps) : ∀ k, v.ownBlock = some k → base ≤ k ∧ k < w.heap.size := by
  intro k hk
  rcases h.2 with ⟨rfl, e⟩ | ⟨g, cap, cur, rfl, hg, hh, _⟩
  · simp [Value.ownBlock] at hk
  · simp [Value.ownBlock] at hk; subst hk; exact ⟨hg, (Array.getElem?_eq_some_iff.1 hh).1⟩
theorem OwnP.kept {base : Nat} {w w' : World} {v : Value} {ps : List Int} (h : OwnP base w v ps) (hb : ∀ k, v.ownBlock = some k → w'.heap[k]? = w.heap[k]?) : OwnP base w' v ps := by
  refine ⟨h.1, ?_⟩
  rcases h.2 with e | ⟨g, cap, cur, rfl, hg, hh, r⟩
  · exact .inl e
  · exact .inr ⟨g, cap, cur, rfl, hg, (hb g rfl).trans hh, r⟩
theorem OwnP.below {base B : Nat} {w w' : World} {v : Value} {ps : List Int} (h : OwnP base w v ps) (hb : Below B w w') (hB : w.heap.size ≤ B) : OwnP base w' v ps := h.kept (fun k hk => hb.block k (by have := h.row k hk; omega))
theorem OwnP.base {base B : Nat} {w : World} {v : Value} {ps : List Int} (h : OwnP base w v ps) (hB : B ≤ base) : OwnP B w v ps := by
  refine ⟨h.1, ?_⟩
  rcases h.2 with e | ⟨g, cap, cur, rfl, hg, r⟩
  · exact .inl e
  · exact .inr ⟨g, cap, cur, rfl, Nat.le_trans hB hg, r⟩
theorem OwnP.prs {base n c : Nat} {a : Option Addr} {w : World} {ps : List Int} (h : OwnP base w (.slice a n c) ps) : ∀ i p, ps[i]? = some p → ∃ b, a = some ⟨b, 0, none⟩ ∧ base ≤ b ∧ b < w.heap.size ∧ w.cell? ⟨b, 0 + i, none⟩ = some (.int .i64 p) := by
  intro i p hp
  have hi := (List.getElem?_eq_some_iff.1 hp).1
  rcases h.2 with ⟨e, e2⟩ | ⟨g, cap, cur, e, hg, hb, hn, hm, hs, ht⟩
  · omega
  · cases e
    have e0 : (valsP ps)[i]? = some (.int .i64 p) := by unfold valsP; rw [List.getElem?_map, hp]; rfl
    rw [← ht, List.getElem?_take_of_lt (by omega)] at e0
    refine ⟨g, rfl, hg, (Array.getElem?_eq_some_iff.1 hb).1, ?_⟩
    simp only [World.cell?, hb, Nat.zero_add]
    simpa using e0
theorem OwnP.at {base n c : Nat} {a : Option Addr} {w : World} {ps : List Int} (h : OwnP base w (.slice a n c) ps) : PrAt w.heap.size w a ps := fun i p hp => by
  obtain ⟨b, e, _, hb, hc⟩ := h.prs i p hp
  exact ⟨b, 0, e, hb, hc⟩
theorem infoP : (Tryd.prog.info? 2).map (fun i => (i.zero, i.size, i.bytes)) = some (some (.int .i64 0), 1, 8) := by kernel_rfl
theorem partsP : ∃ i, Tryd.prog.info? 2 = some i ∧ i.zero = some (.int .i64 0) ∧ i.size = 1 ∧ i.bytes = 8 := by
  have h := infoP
  cases hi : Tryd.prog.info? 2 with
  | none => rw [hi] at h; cases h
  | some i => rw [hi] at h; simp at h; exact ⟨i, rfl, h.1, h.2.1, h.2.2⟩
/-- Appending prices that lie somewhere. -/
theorem wpList_OwnP {w : World} {ops : Array Oper} {rest : List Oper} {o : Oper} {a : Act} {Q : Exit → Act → World → Prop} (hgd : o.guard = none) (s x : Operand)
    (ho : o.op = .call { callee := .builtin .append, args := #[s, x], argTypes := #[38, 38] })
    (base : Nat) (v : Value) (ls : List Int) (hs : a.eval s = v) (hown : OwnP base w v ls) (ad : Addr) (m c : Nat) (zs : List Int) (hx : a.eval x = .slice (some ad) m c) (hm : zs.length = m) (hz : ∀ j u, (valsP zs)[j]? = some u → w.cell? (ad.add j) = some u)
    (N : Nat) (hN : ls.length + m = N) (hlen : N ≤ 1000000) (hbase : base ≤ w.heap.size)
    (h : ∀ a' c' w', OwnP base w' (.slice a' N c') (ls ++ zs) → w.grownBy w' v.ownBlock → wpList Tryd.prog ops Q rest (a.put o.dst (.slice a' N c')) w') : wpList Tryd.prog ops Q (o :: rest) a w := by
  obtain ⟨i, hi, hzz, hsz, hby⟩ := partsP
  refine wpList_append_own w hgd s x _ ho base 2 i _ 1 8 Tryd.underlying38 hi hzz hsz hby rfl (by decide) v ls.length (valsP ls) hs hown ad m c (valsP zs) hx (by simp [valsP, hm]) hz valsP_one (by unfold maxLen; omega) (by omega) hbase ?_
  intro v' w' h2 h3 _
  have hO : OwnP base w' v' (ls ++ zs) := by
    have e : valsP ls ++ valsP zs = valsP (ls ++ zs) := by simp [valsP]
    unfold OwnP
    rw [← e, List.length_append, hm]
    exact h2
  obtain ⟨a', c', rfl, _⟩ := hO.form
  rw [show (ls ++ zs).length = N by rw [List.length_append, hm, hN]] at hO ⊢
  exact h a' c' w' hO h3
theorem one_price {w : World} {g : Nat} {z : Int} (h0 : w.cell? ⟨g, 0, none⟩ = some (.int .i64 z)) : ∀ j u, (valsP [z])[j]? = some u → w.cell? ((⟨g, 0, none⟩ : Addr).add j) = some u := fun j u hj => by
  match j, hj with
  | 0, hj => simp [valsP] at hj; subst hj; simpa [Addr.add] using h0
  | j + 1, hj => simp [valsP] at hj
theorem PrAt.cells {B : Nat} {W : World} {b o : Nat} {ps : List Int} (h : PrAt B W (some ⟨b, o, none⟩) ps) : ∀ j u, (valsP ps)[j]? = some u → W.cell? ((⟨b, o, none⟩ : Addr).add j) = some u := by
  intro j u hj
  unfold valsP at hj
  rw [List.getElem?_map] at hj
  cases hp : ps[j]? with
  | none => rw [hp] at hj; cases hj
  | some p =>
    rw [hp] at hj
    cases hj
    obtain ⟨b', o', e, _, hc⟩ := h j p hp
    cases e
    rw [Addr.add_mid]
    exact hc
/-- Below, over a row's growing. -/
theorem below_grown {B n : Nat} {w X Y : World} {v : Value} {row : Option Nat} (h : Below B w X) (hg : X.grownBy Y row) (hn : B ≤ X.heap.size) (hr : ∀ k, row = some k → B ≤ k) : Below B w Y := h.grown hg hn hr
end Go.Proofs.YthlpigffjbhmoaaDoor
