/- Joined: BPlan BOwnR BOwnV BTabX. -/
import Derived.Test.YtbffmobjiiicoaaGreatDoorJB1
import Derived.Test.YtbffmobjiiicoaaGreatDoorJB3
import Derived.Maps.OwnIn
import Derived.Laws.OwnMore
section
/- A list of switches that a call makes, and the statements' plan. -/
set_option linter.unusedVariables false
set_option linter.unusedSimpArgs false
namespace Go.Proofs.YtbffmobjiiicoaaGreatDoor.B9
open Go.RowKit Go.Shelf
def valsS (xs : List Sw) : List Value := xs.flatMap fun s => [.int .i64 s.m, .int .i64 s.b]
theorem valsS_len (xs : List Sw) : (valsS xs).length = xs.length * 2 := by
  induction xs with
  | nil => rfl
  | cons s xs ih => unfold valsS at ih ⊢; simp only [List.flatMap_cons, List.length_append, List.length_cons, List.length_nil, ih]; omega
theorem valsS_app (xs ys : List Sw) : valsS xs ++ valsS ys = valsS (xs ++ ys) := by simp [valsS]
theorem valsS_get (xs : List Sw) (j : Nat) (h : j < xs.length) : (valsS xs)[j * 2]? = some (.int .i64 (xs.getD j ⟨0, 0⟩).m) ∧ (valsS xs)[j * 2 + 1]? = some (.int .i64 (xs.getD j ⟨0, 0⟩).b) := by
  induction xs generalizing j with
  | nil => simp at h
  | cons s xs ih =>
    cases j with
    | zero => simp [valsS]
    | succ j =>
      have := ih j (by simpa using h)
      rw [show (j + 1) * 2 = j * 2 + 1 + 1 by omega]
      simpa [valsS] using this
/-- The slice value v is the call's own row of just these switches, in a block from 'base' on; or nil, and there are none. -/
def OwnS (base : Nat) (w : World) (v : Value) (xs : List Sw) : Prop := w.ownsRow base 107 2 v xs.length (valsS xs)
theorem OwnS.nil (base : Nat) (w : World) : OwnS base w (.slice none 0 0) [] := ⟨by simp [valsS], .inl ⟨rfl, rfl⟩⟩
theorem OwnS.form {base : Nat} {w : World} {v : Value} {xs : List Sw} (h : OwnS base w v xs) : ∃ a c, v = .slice a xs.length c := by
  rcases h.2 with ⟨rfl, e⟩ | ⟨g, cap, cur, rfl, _⟩
  · exact ⟨none, 0, by rw [e]⟩
  · exact ⟨_, cap, rfl⟩
theorem OwnS.row {base : Nat} {w : World} {v : Value} {xs : List Sw} (h : OwnS base w v xs) : ∀ k, v.ownBlock = some k → base ≤ k := by
  intro k hk
  rcases h.2 with ⟨rfl, e⟩ | ⟨g, cap, cur, rfl, hg, _⟩
  · simp [Value.ownBlock] at hk
  · simp [Value.ownBlock] at hk; omega
theorem OwnS.below {base B : Nat} {w w' : World} {v : Value} {xs : List Sw} (h : OwnS base w v xs) (hb : Below B w w') (hB : w.heap.size ≤ B) : OwnS base w' v xs := by
  refine ⟨h.1, ?_⟩
  rcases h.2 with e | ⟨g, cap, cur, rfl, hg, hh, r⟩
  · exact .inl e
  · have hlt : g < w.heap.size := (Array.getElem?_eq_some_iff.1 hh).1
    exact .inr ⟨g, cap, cur, rfl, hg, (hb.block g (by omega)).trans hh, r⟩
theorem OwnS.sws {base n c : Nat} {a : Option Addr} {w : World} {xs : List Sw} (h : OwnS base w (.slice a n c) xs) : SwsAt w.heap.size w a xs.length (fun i => xs.getD i ⟨0, 0⟩) := by
  intro i hi
  rcases h.2 with ⟨e, e2⟩ | ⟨g, cap, cur, e, hg, hb, hn, hm, hs, ht⟩
  · omega
  · cases e
    obtain ⟨e0, e1⟩ := valsS_get xs i hi
    rw [← ht, List.getElem?_take_of_lt (by omega)] at e0 e1
    refine ⟨g, 0, rfl, (Array.getElem?_eq_some_iff.1 hb).1, ?_, ?_⟩
    · simp only [World.cell?, hb, Nat.zero_add]; simpa using e0
    · simp only [World.cell?, hb, Nat.zero_add]; simpa using e1
theorem infoS : (Tryz.prog.info? 107).map (fun i => (i.zero, i.size, i.bytes)) = some (some (.agg #[.int .i64 0, .int .i64 0]), 2, 16) := by kernel_rfl
theorem partsS : ∃ i, Tryz.prog.info? 107 = some i ∧ i.zero = some (.agg #[.int .i64 0, .int .i64 0]) ∧ i.size = 2 ∧ i.bytes = 16 := by
  have h := infoS
  cases hi : Tryz.prog.info? 107 with
  | none => rw [hi] at h; cases h
  | some i => rw [hi] at h; simp at h; exact ⟨i, rfl, h.1, h.2.1, h.2.2⟩
/-- Appending one switch that lies in a block of its own. -/
theorem wpList_bappS {w : World} {ops : Array Oper} {rest : List Oper} {o : Oper} {a : Act} {Q : Exit → Act → World → Prop} (hgd : o.guard = none) (s x : Operand)
    (ho : o.op = .call { callee := .builtin .append, args := #[s, x], argTypes := #[82, 82] })
    (base : Nat) (v : Value) (ys : List Sw) (hs : a.eval s = v) (hown : OwnS base w v ys) (g : Nat) (z : Sw) (hx : a.eval x = .slice (some ⟨g, 0, none⟩) 1 1) (h0 : w.cell? ⟨g, 0, none⟩ = some (.int .i64 z.m)) (h1 : w.cell? ⟨g, 1, none⟩ = some (.int .i64 z.b))
    (hlen : ys.length ≤ 1000000) (hbase : base ≤ w.heap.size)
    (h : ∀ a' c' w', OwnS base w' (.slice a' (ys ++ [z]).length c') (ys ++ [z]) → Below base w w' → wpList Tryz.prog ops Q rest (a.put o.dst (.slice a' (ys ++ [z]).length c')) w') : wpList Tryz.prog ops Q (o :: rest) a w := by
  obtain ⟨i, hi, hz, hsz, hby⟩ := partsS
  refine wpList_append_own_at w hgd s x _ ho base 107 i _ 2 16 Tryz.underlying82 hi hz hsz hby rfl (by decide) v ys.length (valsS ys) hs hown ⟨g, 0, none⟩ 1 1 [.int .i64 z.m, .int .i64 z.b] hx rfl ?_ ?_ (by unfold maxLen; omega) (by omega) hbase ?_
  · intro j u hj
    match j, hj with
    | 0, hj => simp at hj; subst hj; simpa [Addr.add] using h0
    | 1, hj => simp at hj; subst hj; simpa [Addr.add] using h1
  · intro u hu
    simp at hu
    rcases hu with rfl | rfl <;> rfl
  · intro v' w' h2 h3 _ _
    have hO : OwnS base w' v' (ys ++ [z]) := by
      have e := valsS_app ys [z]
      unfold OwnS
      rw [← e, List.length_append]
      exact h2
    obtain ⟨a', c', rfl⟩ := hO.form
    exact h a' c' w' hO ((Below.refl _ _).grown h3 hbase hown.row)
end Go.Proofs.YtbffmobjiiicoaaGreatDoor.B9
end
section
/- Rows of rules that a call makes. -/
set_option linter.unusedVariables false
set_option linter.unusedSimpArgs false
namespace Go.Proofs.YtbffmobjiiicoaaGreatDoor.B9
open Go.RowKit Go.Shelf
def valsR (xs : List Ru) : List Value := xs.flatMap fun r => [.int .i64 r.s, .int .i64 r.k, .int .i64 r.p]
theorem valsR_len (xs : List Ru) : (valsR xs).length = xs.length * 3 := by
  induction xs with
  | nil => rfl
  | cons s xs ih => unfold valsR at ih ⊢; simp only [List.flatMap_cons, List.length_append, List.length_cons, List.length_nil, ih]; omega
theorem valsR_app (xs ys : List Ru) : valsR xs ++ valsR ys = valsR (xs ++ ys) := by simp [valsR]
theorem valsR_one {xs : List Ru} : ∀ u ∈ valsR xs, u.oneCell' = true := by
  intro u hu
  simp only [valsR, List.mem_flatMap] at hu
  obtain ⟨r, _, hr⟩ := hu
  simp at hr
  rcases hr with rfl | rfl | rfl <;> rfl
theorem valsR_get (xs : List Ru) (j : Nat) (h : j < xs.length) : (valsR xs)[j * 3]? = some (.int .i64 (xs.getD j ⟨0, 0, 0⟩).s) ∧ (valsR xs)[j * 3 + 1]? = some (.int .i64 (xs.getD j ⟨0, 0, 0⟩).k) ∧ (valsR xs)[j * 3 + 2]? = some (.int .i64 (xs.getD j ⟨0, 0, 0⟩).p) := by
  induction xs generalizing j with
  | nil => simp at h
  | cons s xs ih =>
    cases j with
    | zero => simp [valsR]
    | succ j =>
      have := ih j (by simpa using h)
      rw [show (j + 1) * 3 = j * 3 + 1 + 1 + 1 by omega]
      simpa [valsR] using this
/-- The cells of a row of rules that lies from ⟨b, o⟩ on. -/
theorem valsR_cells {w : World} {b o n : Nat} {R : Nat → Ru} (h : ∀ i, i < n → w.cell? ⟨b, o + i * 3, none⟩ = some (.int .i64 (R i).s) ∧ w.cell? ⟨b, o + i * 3 + 1, none⟩ = some (.int .i64 (R i).k) ∧ w.cell? ⟨b, o + i * 3 + 2, none⟩ = some (.int .i64 (R i).p)) :
    ∀ j u, (valsR ((List.range n).map R))[j]? = some u → w.cell? ((⟨b, o, none⟩ : Addr).add j) = some u := by
  intro j u hj
  have hl : j < n * 3 := by
    have := (List.getElem?_eq_some_iff.1 hj).1
    rw [valsR_len] at this
    simpa using this
  obtain ⟨i, r, hr, rfl⟩ : ∃ i r, r < 3 ∧ j = i * 3 + r := ⟨j / 3, j % 3, by omega, by omega⟩
  have hi : i < n := by omega
  obtain ⟨e0, e1, e2⟩ := valsR_get ((List.range n).map R) i (by simpa using hi)
  have hg : ((List.range n).map R).getD i ⟨0, 0, 0⟩ = R i := by simp [List.getD, hi]
  rw [hg] at e0 e1 e2
  obtain ⟨c0, c1, c2⟩ := h i hi
  rcases (by omega : r = 0 ∨ r = 1 ∨ r = 2) with rfl | rfl | rfl
  · rw [Nat.add_zero, e0] at hj; cases hj; rw [Nat.add_zero, Addr.add_mid]; exact c0
  · rw [e1] at hj; cases hj; rw [Addr.add_mid, ← Nat.add_assoc]; exact c1
  · rw [e2] at hj; cases hj; rw [Addr.add_mid, ← Nat.add_assoc]; exact c2
/-- The slice value v is the call's own row of just these rules, in a block from 'base' on; or nil, and there are none. -/
def OwnR (base : Nat) (w : World) (v : Value) (xs : List Ru) : Prop := w.ownsRow base 100 3 v xs.length (valsR xs)
theorem OwnR.nil (base : Nat) (w : World) : OwnR base w (.slice none 0 0) [] := ⟨by simp [valsR], .inl ⟨rfl, rfl⟩⟩
theorem OwnR.form {base : Nat} {w : World} {v : Value} {xs : List Ru} (h : OwnR base w v xs) : ∃ a c, v = .slice a xs.length c := by
  rcases h.2 with ⟨rfl, e⟩ | ⟨g, cap, cur, rfl, _⟩
  · exact ⟨none, 0, by rw [e]⟩
  · exact ⟨_, cap, rfl⟩
theorem OwnR.row {base : Nat} {w : World} {v : Value} {xs : List Ru} (h : OwnR base w v xs) : ∀ k, v.ownBlock = some k → base ≤ k ∧ k < w.heap.size := by
  intro k hk
  rcases h.2 with ⟨rfl, e⟩ | ⟨g, cap, cur, rfl, hg, hh, _⟩
  · simp [Value.ownBlock] at hk
  · simp [Value.ownBlock] at hk; subst hk; exact ⟨hg, (Array.getElem?_eq_some_iff.1 hh).1⟩
theorem OwnR.kept {base : Nat} {w w' : World} {v : Value} {xs : List Ru} (h : OwnR base w v xs) (hb : ∀ k, v.ownBlock = some k → w'.heap[k]? = w.heap[k]?) : OwnR base w' v xs := by
  refine ⟨h.1, ?_⟩
  rcases h.2 with e | ⟨g, cap, cur, rfl, hg, hh, r⟩
  · exact .inl e
  · exact .inr ⟨g, cap, cur, rfl, hg, (hb g rfl).trans hh, r⟩
theorem OwnR.rus {base n c : Nat} {a : Option Addr} {w : World} {xs : List Ru} (h : OwnR base w (.slice a n c) xs) : RusAt w.heap.size w a xs.length (fun i => xs.getD i ⟨0, 0, 0⟩) := by
  intro i hi
  rcases h.2 with ⟨e, e2⟩ | ⟨g, cap, cur, e, hg, hb, hn, hm, hs, ht⟩
  · omega
  · cases e
    obtain ⟨e0, e1, e2⟩ := valsR_get xs i hi
    rw [← ht, List.getElem?_take_of_lt (by omega)] at e0 e1 e2
    refine ⟨g, 0, rfl, (Array.getElem?_eq_some_iff.1 hb).1, ?_, ?_, ?_⟩
    · simp only [World.cell?, hb, Nat.zero_add]; simpa using e0
    · simp only [World.cell?, hb, Nat.zero_add]; simpa using e1
    · simp only [World.cell?, hb, Nat.zero_add]; simpa using e2
theorem infoOwnR : (Tryz.prog.info? 100).map (fun i => (i.zero, i.size, i.bytes)) = some (some (.agg #[.int .i64 0, .int .i64 0, .int .i64 0]), 3, 24) := by kernel_rfl
theorem partsOwnR : ∃ i, Tryz.prog.info? 100 = some i ∧ i.zero = some (.agg #[.int .i64 0, .int .i64 0, .int .i64 0]) ∧ i.size = 3 ∧ i.bytes = 24 := by
  have h := infoOwnR
  cases hi : Tryz.prog.info? 100 with
  | none => rw [hi] at h; cases h
  | some i => rw [hi] at h; simp at h; exact ⟨i, rfl, h.1, h.2.1, h.2.2⟩
/-- Appending rules that lie somewhere, in a region that draws its order. -/
theorem wpR_OwnR {w : World} {o : Oper} {a : Act} {K : Act → World → Prop} {Q : Exit → Act → World → Prop} (hgd : o.guard = none) (s x : Operand)
    (ho : o.op = .call { callee := .builtin .append, args := #[s, x], argTypes := #[30, 30] })
    (base : Nat) (v : Value) (ls : List Ru) (hs : a.eval s = v) (hown : OwnR base w v ls) (ad : Addr) (m c : Nat) (zs : List Ru) (hx : a.eval x = .slice (some ad) m c) (hm : zs.length = m) (hz : ∀ j u, (valsR zs)[j]? = some u → w.cell? (ad.add j) = some u)
    (hlen : ls.length + m ≤ 1000000) (hbase : base ≤ w.heap.size)
    (h : ∀ a' c' w', OwnR base w' (.slice a' (ls ++ zs).length c') (ls ++ zs) → w.grownBy w' v.ownBlock → K (a.put o.dst (.slice a' (ls ++ zs).length c')) w') :
    o.wp Tryz.prog a w K Q := by
  obtain ⟨i, hi, hzz, hsz, hby⟩ := partsOwnR
  obtain ⟨v', w', hr, h2, h3, h4, h5⟩ := run_append_own_at (P := Tryz.prog) w base _ o.type 100 i _ 3 24 Tryz.underlying30 hi hzz hsz hby rfl (by decide) v ls.length (valsR ls) hown ad m c (valsR zs) (by rw [valsR_len, hm]) hz valsR_one (by unfold maxLen; omega) (by omega) hbase
  have hO : OwnR base w' v' (ls ++ zs) := by
    have e := valsR_app ls zs
    unfold OwnR
    rw [← e, List.length_append, hm]
    exact h2
  obtain ⟨a', c', rfl⟩ := hO.form
  have hk := h a' c' w' hO h3
  unfold Oper.wp
  simp [execOp, ho, resolve, invoke, builtin, hs, hx, hr, Result.andThen, Oper.upon]
  simpa using hk
/-- The slice value v is the call's own row of just these rules, in a block from 'base' on; or nil, and there are none. -/
def OwnU (base : Nat) (w : World) (v : Value) (xs : List Ru) : Prop := w.ownsRow base 105 3 v xs.length (valsR xs)
theorem OwnU.nil (base : Nat) (w : World) : OwnU base w (.slice none 0 0) [] := ⟨by simp [valsR], .inl ⟨rfl, rfl⟩⟩
theorem OwnU.form {base : Nat} {w : World} {v : Value} {xs : List Ru} (h : OwnU base w v xs) : ∃ a c, v = .slice a xs.length c := by
  rcases h.2 with ⟨rfl, e⟩ | ⟨g, cap, cur, rfl, _⟩
  · exact ⟨none, 0, by rw [e]⟩
  · exact ⟨_, cap, rfl⟩
theorem OwnU.row {base : Nat} {w : World} {v : Value} {xs : List Ru} (h : OwnU base w v xs) : ∀ k, v.ownBlock = some k → base ≤ k ∧ k < w.heap.size := by
  intro k hk
  rcases h.2 with ⟨rfl, e⟩ | ⟨g, cap, cur, rfl, hg, hh, _⟩
  · simp [Value.ownBlock] at hk
  · simp [Value.ownBlock] at hk; subst hk; exact ⟨hg, (Array.getElem?_eq_some_iff.1 hh).1⟩
theorem OwnU.kept {base : Nat} {w w' : World} {v : Value} {xs : List Ru} (h : OwnU base w v xs) (hb : ∀ k, v.ownBlock = some k → w'.heap[k]? = w.heap[k]?) : OwnU base w' v xs := by
  refine ⟨h.1, ?_⟩
  rcases h.2 with e | ⟨g, cap, cur, rfl, hg, hh, r⟩
  · exact .inl e
  · exact .inr ⟨g, cap, cur, rfl, hg, (hb g rfl).trans hh, r⟩
theorem OwnU.rus {base n c : Nat} {a : Option Addr} {w : World} {xs : List Ru} (h : OwnU base w (.slice a n c) xs) : RusAt w.heap.size w a xs.length (fun i => xs.getD i ⟨0, 0, 0⟩) := by
  intro i hi
  rcases h.2 with ⟨e, e2⟩ | ⟨g, cap, cur, e, hg, hb, hn, hm, hs, ht⟩
  · omega
  · cases e
    obtain ⟨e0, e1, e2⟩ := valsR_get xs i hi
    rw [← ht, List.getElem?_take_of_lt (by omega)] at e0 e1 e2
    refine ⟨g, 0, rfl, (Array.getElem?_eq_some_iff.1 hb).1, ?_, ?_, ?_⟩
    · simp only [World.cell?, hb, Nat.zero_add]; simpa using e0
    · simp only [World.cell?, hb, Nat.zero_add]; simpa using e1
    · simp only [World.cell?, hb, Nat.zero_add]; simpa using e2
theorem infoOwnU : (Tryz.prog.info? 105).map (fun i => (i.zero, i.size, i.bytes)) = some (some (.agg #[.int .i64 0, .int .i64 0, .int .i64 0]), 3, 24) := by kernel_rfl
theorem partsOwnU : ∃ i, Tryz.prog.info? 105 = some i ∧ i.zero = some (.agg #[.int .i64 0, .int .i64 0, .int .i64 0]) ∧ i.size = 3 ∧ i.bytes = 24 := by
  have h := infoOwnU
  cases hi : Tryz.prog.info? 105 with
  | none => rw [hi] at h; cases h
  | some i => rw [hi] at h; simp at h; exact ⟨i, rfl, h.1, h.2.1, h.2.2⟩
/-- Appending rules that lie somewhere, in a region that draws its order. -/
theorem wpR_OwnU {w : World} {o : Oper} {a : Act} {K : Act → World → Prop} {Q : Exit → Act → World → Prop} (hgd : o.guard = none) (s x : Operand)
    (ho : o.op = .call { callee := .builtin .append, args := #[s, x], argTypes := #[63, 63] })
    (base : Nat) (v : Value) (ls : List Ru) (hs : a.eval s = v) (hown : OwnU base w v ls) (ad : Addr) (m c : Nat) (zs : List Ru) (hx : a.eval x = .slice (some ad) m c) (hm : zs.length = m) (hz : ∀ j u, (valsR zs)[j]? = some u → w.cell? (ad.add j) = some u)
    (hlen : ls.length + m ≤ 1000000) (hbase : base ≤ w.heap.size)
    (h : ∀ a' c' w', OwnU base w' (.slice a' (ls ++ zs).length c') (ls ++ zs) → w.grownBy w' v.ownBlock → K (a.put o.dst (.slice a' (ls ++ zs).length c')) w') :
    o.wp Tryz.prog a w K Q := by
  obtain ⟨i, hi, hzz, hsz, hby⟩ := partsOwnU
  obtain ⟨v', w', hr, h2, h3, h4, h5⟩ := run_append_own_at (P := Tryz.prog) w base _ o.type 105 i _ 3 24 Tryz.underlying63 hi hzz hsz hby rfl (by decide) v ls.length (valsR ls) hown ad m c (valsR zs) (by rw [valsR_len, hm]) hz valsR_one (by unfold maxLen; omega) (by omega) hbase
  have hO : OwnU base w' v' (ls ++ zs) := by
    have e := valsR_app ls zs
    unfold OwnU
    rw [← e, List.length_append, hm]
    exact h2
  obtain ⟨a', c', rfl⟩ := hO.form
  have hk := h a' c' w' hO h3
  unfold Oper.wp
  simp [execOp, ho, resolve, invoke, builtin, hs, hx, hr, Result.andThen, Oper.upon]
  simpa using hk
/-- Appending one rule that lies in a block of its own, in a region that draws its order. -/
theorem wpR_OwnUN {w : World} {o : Oper} {a : Act} {K : Act → World → Prop} {Q : Exit → Act → World → Prop} (hgd : o.guard = none) (s x : Operand)
    (ho : o.op = .call { callee := .builtin .append, args := #[s, x], argTypes := #[63, 63] })
    (base : Nat) (v : Value) (ls : List Ru) (hs : a.eval s = v) (hown : OwnU base w v ls) (g : Nat) (z : Ru) (hx : a.eval x = .slice (some ⟨g, 0, none⟩) 1 1) (h0 : w.cell? ⟨g, 0, none⟩ = some (.int .i64 z.s)) (h1 : w.cell? ⟨g, 1, none⟩ = some (.int .i64 z.k)) (h2 : w.cell? ⟨g, 2, none⟩ = some (.int .i64 z.p))
    (N : Nat) (hN : ls.length + 1 = N) (hlen : ls.length + 1 ≤ 1000000) (hbase : base ≤ w.heap.size)
    (h : ∀ a' c' w', OwnU base w' (.slice a' N c') (ls ++ [z]) → w.grownBy w' v.ownBlock → K (a.put o.dst (.slice a' N c')) w') :
    o.wp Tryz.prog a w K Q := by
  refine wpR_OwnU hgd s x ho base v ls hs hown ⟨g, 0, none⟩ 1 1 [z] hx rfl (fun j u hj => ?_) hlen hbase ?_
  · match j, hj with
    | 0, hj => simp [valsR] at hj; subst hj; simpa [Addr.add] using h0
    | 1, hj => simp [valsR] at hj; subst hj; simpa [Addr.add] using h1
    | 2, hj => simp [valsR] at hj; subst hj; simpa [Addr.add] using h2
    | j + 3, hj => simp [valsR] at hj
  · rw [show (ls ++ [z]).length = N by simp [hN]]
    exact h
end Go.Proofs.YtbffmobjiiicoaaGreatDoor.B9
end
section
/- Rows of plans that a call makes. -/
set_option linter.unusedVariables false
set_option linter.unusedSimpArgs false
namespace Go.Proofs.YtbffmobjiiicoaaGreatDoor.B9
open Go.RowKit Go.Shelf
/-- The slice value v is the call's own row of just these slices, in a block from 'base' on; or nil, and there are none. -/
def OwnV (base : Nat) (w : World) (v : Value) (xs : List Value) : Prop := w.ownsRow base 82 1 v xs.length xs
theorem OwnV.nil (base : Nat) (w : World) : OwnV base w (.slice none 0 0) [] := ⟨by simp, .inl ⟨rfl, rfl⟩⟩
theorem OwnV.form {base : Nat} {w : World} {v : Value} {xs : List Value} (h : OwnV base w v xs) : ∃ a c, v = .slice a xs.length c := by
  rcases h.2 with ⟨rfl, e⟩ | ⟨g, cap, cur, rfl, _⟩
  · exact ⟨none, 0, by rw [e]⟩
  · exact ⟨_, cap, rfl⟩
theorem OwnV.row {base : Nat} {w : World} {v : Value} {xs : List Value} (h : OwnV base w v xs) : ∀ k, v.ownBlock = some k → base ≤ k ∧ k < w.heap.size := by
  intro k hk
  rcases h.2 with ⟨rfl, e⟩ | ⟨g, cap, cur, rfl, hg, hh, _⟩
  · simp [Value.ownBlock] at hk
  · simp [Value.ownBlock] at hk; subst hk; exact ⟨hg, (Array.getElem?_eq_some_iff.1 hh).1⟩
theorem OwnV.kept {base : Nat} {w w' : World} {v : Value} {xs : List Value} (h : OwnV base w v xs) (hb : ∀ k, v.ownBlock = some k → w'.heap[k]? = w.heap[k]?) : OwnV base w' v xs := by
  refine ⟨h.1, ?_⟩
  rcases h.2 with e | ⟨g, cap, cur, rfl, hg, hh, r⟩
  · exact .inl e
  · exact .inr ⟨g, cap, cur, rfl, hg, (hb g rfl).trans hh, r⟩
theorem OwnV.cells {base n c : Nat} {a : Option Addr} {w : World} {xs : List Value} (h : OwnV base w (.slice a n c) xs) : ∀ i, i < xs.length → ∃ g, a = some ⟨g, 0, none⟩ ∧ g < w.heap.size ∧ w.cell? ⟨g, i, none⟩ = xs[i]? := by
  intro i hi
  rcases h.2 with ⟨e, e2⟩ | ⟨g, cap, cur, e, hg, hb, hn, hm, hs, ht⟩
  · omega
  · cases e
    refine ⟨g, rfl, (Array.getElem?_eq_some_iff.1 hb).1, ?_⟩
    have : xs[i]? = cur[i]? := by
      rw [← ht, List.getElem?_take_of_lt (by omega)]
      simp
    rw [this]
    simp only [World.cell?, hb]
    simp
theorem infoV : (Tryz.prog.info? 82).map (fun i => (i.zero, i.size, i.bytes)) = some (some (.slice none 0 0), 1, 24) := by kernel_rfl
theorem partsV : ∃ i, Tryz.prog.info? 82 = some i ∧ i.zero = some (.slice none 0 0) ∧ i.size = 1 ∧ i.bytes = 24 := by
  have h := infoV
  cases hi : Tryz.prog.info? 82 with
  | none => rw [hi] at h; cases h
  | some i => rw [hi] at h; simp at h; exact ⟨i, rfl, h.1, h.2.1, h.2.2⟩
/-- Appending one slice that lies in a block of its own, in a region that draws its order. -/
theorem wpR_OwnV {w : World} {o : Oper} {a : Act} {K : Act → World → Prop} {Q : Exit → Act → World → Prop} (hgd : o.guard = none) (s x : Operand)
    (ho : o.op = .call { callee := .builtin .append, args := #[s, x], argTypes := #[62, 62] })
    (base : Nat) (v : Value) (ls : List Value) (hs : a.eval s = v) (hown : OwnV base w v ls) (g : Nat) (z : Value) (hx : a.eval x = .slice (some ⟨g, 0, none⟩) 1 1) (hz : w.cell? ⟨g, 0, none⟩ = some z) (hz1 : z.oneCell' = true)
    (hlen : ls.length + 1 ≤ 1000000) (hbase : base ≤ w.heap.size)
    (h : ∀ a' c' w', OwnV base w' (.slice a' (ls ++ [z]).length c') (ls ++ [z]) → w.grownBy w' v.ownBlock → ((Value.slice a' (ls ++ [z]).length c').ownBlock = v.ownBlock ∨ (Value.slice a' (ls ++ [z]).length c').ownBlock = some w.heap.size) → K (a.put o.dst (.slice a' (ls ++ [z]).length c')) w') :
    o.wp Tryz.prog a w K Q := by
  obtain ⟨i, hi, hzz, hsz, hby⟩ := partsV
  obtain ⟨v', w', hr, h2, h3, h4, h5⟩ := run_append_own_at (P := Tryz.prog) w base _ o.type 82 i _ 1 24 Tryz.underlying62 hi hzz hsz hby rfl (by decide) v ls.length ls hown ⟨g, 0, none⟩ 1 1 [z] rfl (fun j u hj => by
    match j, hj with
    | 0, hj => simp at hj; subst hj; simpa [Addr.add] using hz) (fun u hu => by simp at hu; rw [hu]; exact hz1) (by unfold maxLen; omega) (by omega) hbase
  have hO : OwnV base w' v' (ls ++ [z]) := by
    unfold OwnV
    rw [List.length_append]
    exact h2
  obtain ⟨a', c', rfl⟩ := hO.form
  have hk := h a' c' w' hO h3 h5
  unfold Oper.wp
  simp [execOp, ho, resolve, invoke, builtin, hs, hx, hr, Result.andThen, Oper.upon]
  simpa using hk
theorem wpR_OwnVN {w : World} {o : Oper} {a : Act} {K : Act → World → Prop} {Q : Exit → Act → World → Prop} (hgd : o.guard = none) (s x : Operand)
    (ho : o.op = .call { callee := .builtin .append, args := #[s, x], argTypes := #[62, 62] })
    (base : Nat) (v : Value) (ls : List Value) (hs : a.eval s = v) (hown : OwnV base w v ls) (g : Nat) (z : Value) (hx : a.eval x = .slice (some ⟨g, 0, none⟩) 1 1) (hz : w.cell? ⟨g, 0, none⟩ = some z) (hz1 : z.oneCell' = true)
    (N : Nat) (hN : ls.length + 1 = N) (hlen : ls.length + 1 ≤ 1000000) (hbase : base ≤ w.heap.size)
    (h : ∀ a' c' w', OwnV base w' (.slice a' N c') (ls ++ [z]) → w.grownBy w' v.ownBlock → ((Value.slice a' N c').ownBlock = v.ownBlock ∨ (Value.slice a' N c').ownBlock = some w.heap.size) → K (a.put o.dst (.slice a' N c')) w') :
    o.wp Tryz.prog a w K Q := by
  refine wpR_OwnV hgd s x ho base v ls hs hown g z hx hz hz1 hlen hbase ?_
  rw [show (ls ++ [z]).length = N by simp [hN]]
  exact h
/-- A copy of a plan, in blocks apart from those of Nb. -/
def SwsAv (Nb : Nat → Prop) (W : World) (a : Option Addr) (len : Nat) (L : Nat → Sw) : Prop :=
  ∀ i, i < len → ∃ b o, a = some ⟨b, o, none⟩ ∧ b < W.heap.size ∧ ¬ Nb b ∧ W.cell? ⟨b, o + i * 2, none⟩ = some (.int .i64 (L i).m) ∧ W.cell? ⟨b, o + i * 2 + 1, none⟩ = some (.int .i64 (L i).b)
theorem SwsAv.sws {Nb : Nat → Prop} {W : World} {a : Option Addr} {len : Nat} {L : Nat → Sw} (h : SwsAv Nb W a len L) : SwsAt W.heap.size W a len L := fun i hi => by
  obtain ⟨b, o, e, hb, _, h0, h1⟩ := h i hi
  exact ⟨b, o, e, hb, h0, h1⟩
theorem SwsAv.kept {Nb Nb' : Nat → Prop} {W X : World} {a : Option Addr} {len : Nat} {L : Nat → Sw} (h : SwsAv Nb W a len L) (hs : W.heap.size ≤ X.heap.size) (hk : ∀ k, k < W.heap.size → ¬ Nb k → X.heap[k]? = W.heap[k]?) (hn : ∀ k, k < W.heap.size → ¬ Nb k → ¬ Nb' k) : SwsAv Nb' X a len L := fun i hi => by
  obtain ⟨b, o, e, hb, hnb, h0, h1⟩ := h i hi
  have hx : ∀ k, X.cell? ⟨b, k, none⟩ = W.cell? ⟨b, k, none⟩ := fun k => World.cell?_of_block (a := ⟨b, k, none⟩) (hk b hb hnb)
  exact ⟨b, o, e, Nat.lt_of_lt_of_le hb hs, hn b hb hnb, (hx _).trans h0, (hx _).trans h1⟩
theorem OwnS.av {base n c : Nat} {a : Option Addr} {w : World} {xs : List Sw} {Nb : Nat → Prop} (h : OwnS base w (.slice a n c) xs) (hn : ∀ k, base ≤ k → ¬ Nb k) : SwsAv Nb w a xs.length (fun i => xs.getD i ⟨0, 0⟩) := by
  intro i hi
  rcases h.2 with ⟨e, e2⟩ | ⟨g, cap, cur, e, hg, hb, hn2, hm, hs, ht⟩
  · omega
  · cases e
    obtain ⟨e0, e1⟩ := valsS_get xs i hi
    rw [← ht, List.getElem?_take_of_lt (by omega)] at e0 e1
    refine ⟨g, 0, rfl, (Array.getElem?_eq_some_iff.1 hb).1, hn g hg, ?_, ?_⟩
    · simp only [World.cell?, hb, Nat.zero_add]; simpa using e0
    · simp only [World.cell?, hb, Nat.zero_add]; simpa using e1
theorem SwsAv.fn {Nb : Nat → Prop} {W : World} {a : Option Addr} {len : Nat} {L M : Nat → Sw} (h : SwsAv Nb W a len L) (e : ∀ i, i < len → L i = M i) : SwsAv Nb W a len M := fun i hi => by
  rw [← e i hi]; exact h i hi
end Go.Proofs.YtbffmobjiiicoaaGreatDoor.B9
end
section
/- The statement BandsTables, walked. -/
set_option linter.unusedVariables false
set_option linter.unusedSimpArgs false
namespace Go.Proofs.YtbffmobjiiicoaaGreatDoor.B9
open Go.RowKit Go.Shelf
abbrev tabC (pa : Option Addr) (pl pc : Nat) (ra : Option Addr) (rl rc : Nat) : Array Value := #[.slice pa pl pc, .slice ra rl rc]
theorem cells2t {W : World} {B : Nat} {x y : Value} {T : TypeId} {fr : Nat × Nat} (h : W.heap[B]? = some (.cells #[x, y] T fr)) : W.cell? ⟨B, 0, none⟩ = some x ∧ W.cell? ⟨B, 1, none⟩ = some y := ⟨cell_of_row W B 0 _ _ _ h, cell_of_row W B 1 _ _ _ h⟩
/-- The copies of the first k plans, as the slice of them holds them. -/
def Copies (Nb : Nat → Prop) (W : World) (P : Nat → Pl) (C : Nat → Option Addr × Nat) (k : Nat) : Prop := ∀ i, i < k → ((P i).len ≤ (C i).2 ∧ (C i).2 ≤ maxLen) ∧ SwsAv Nb W (C i).1 (P i).len (P i).L
def cpV (P : Nat → Pl) (C : Nat → Option Addr × Nat) (i : Nat) : Value := .slice (C i).1 (P i).len (C i).2
/-- Appending one slice that lies in a block of its own. -/
theorem wpList_bappV {w : World} {ops : Array Oper} {rest : List Oper} {o : Oper} {a : Act} {Q : Exit → Act → World → Prop} (hgd : o.guard = none) (s x : Operand)
    (ho : o.op = .call { callee := .builtin .append, args := #[s, x], argTypes := #[62, 62] })
    (base : Nat) (v : Value) (ls : List Value) (hs : a.eval s = v) (hown : OwnV base w v ls) (g : Nat) (z : Value) (hx : a.eval x = .slice (some ⟨g, 0, none⟩) 1 1) (hz : w.cell? ⟨g, 0, none⟩ = some z) (hz1 : z.oneCell' = true)
    (N : Nat) (hN : ls.length + 1 = N) (hlen : ls.length + 1 ≤ 1000000) (hbase : base ≤ w.heap.size)
    (h : ∀ a' c' w', OwnV base w' (.slice a' N c') (ls ++ [z]) → w.grownBy w' v.ownBlock → ((Value.slice a' N c').ownBlock = v.ownBlock ∨ (Value.slice a' N c').ownBlock = some w.heap.size) → wpList Tryz.prog ops Q rest (a.put o.dst (.slice a' N c')) w') : wpList Tryz.prog ops Q (o :: rest) a w := by
  obtain ⟨i, hi, hzz, hsz, hby⟩ := partsV
  refine wpList_append_own_at w hgd s x _ ho base 82 i _ 1 24 Tryz.underlying62 hi hzz hsz hby rfl (by decide) v ls.length ls hs hown ⟨g, 0, none⟩ 1 1 [z] hx rfl ?_ ?_ (by unfold maxLen; omega) (by omega) hbase ?_
  · intro j u hj
    match j, hj with
    | 0, hj => simp at hj; subst hj; simpa [Addr.add] using hz
  · intro u hu
    simp at hu; rw [hu]; exact hz1
  · intro v' w' h2 h3 _ h5
    have hO : OwnV base w' v' (ls ++ [z]) := by
      unfold OwnV
      rw [List.length_append]
      exact h2
    obtain ⟨a', c', rfl⟩ := hO.form
    have e : (ls ++ [z]).length = N := by simp [hN]
    rw [e] at hO h5 ⊢
    exact h a' c' w' hO h3 h5
theorem wpList_bappU {w : World} {ops : Array Oper} {rest : List Oper} {o : Oper} {a : Act} {Q : Exit → Act → World → Prop} (hgd : o.guard = none) (s x : Operand)
    (ho : o.op = .call { callee := .builtin .append, args := #[s, x], argTypes := #[63, 63] })
    (base : Nat) (v : Value) (ls : List Ru) (hs : a.eval s = v) (hown : OwnU base w v ls) (g : Nat) (z : Ru) (hx : a.eval x = .slice (some ⟨g, 0, none⟩) 1 1) (h0 : w.cell? ⟨g, 0, none⟩ = some (.int .i64 z.s)) (h1 : w.cell? ⟨g, 1, none⟩ = some (.int .i64 z.k)) (h2 : w.cell? ⟨g, 2, none⟩ = some (.int .i64 z.p))
    (N : Nat) (hN : ls.length + 1 = N) (hlen : ls.length + 1 ≤ 1000000) (hbase : base ≤ w.heap.size)
    (h : ∀ a' c' w', OwnU base w' (.slice a' N c') (ls ++ [z]) → w.grownBy w' v.ownBlock → ((Value.slice a' N c').ownBlock = v.ownBlock ∨ (Value.slice a' N c').ownBlock = some w.heap.size) → wpList Tryz.prog ops Q rest (a.put o.dst (.slice a' N c')) w') : wpList Tryz.prog ops Q (o :: rest) a w := by
  obtain ⟨i, hi, hzz, hsz, hby⟩ := partsOwnU
  refine wpList_append_own_at w hgd s x _ ho base 105 i _ 3 24 Tryz.underlying63 hi hzz hsz hby rfl (by decide) v ls.length (valsR ls) hs hown ⟨g, 0, none⟩ 1 1 [.int .i64 z.s, .int .i64 z.k, .int .i64 z.p] hx rfl ?_ ?_ (by unfold maxLen; omega) (by omega) hbase ?_
  · intro j u hj
    match j, hj with
    | 0, hj => simp at hj; subst hj; simpa [Addr.add] using h0
    | 1, hj => simp at hj; subst hj; simpa [Addr.add] using h1
    | 2, hj => simp at hj; subst hj; simpa [Addr.add] using h2
  · intro u hu
    simp at hu
    rcases hu with rfl | rfl | rfl <;> rfl
  · intro v' w' k2 k3 _ k5
    have hO : OwnU base w' v' (ls ++ [z]) := by
      have e := valsR_app ls [z]
      unfold OwnU
      rw [← e, List.length_append]
      exact k2
    obtain ⟨a', c', rfl⟩ := hO.form
    have e : (ls ++ [z]).length = N := by simp [hN]
    rw [e] at hO k5 ⊢
    exact h a' c' w' hO k3 k5
theorem OwnS.cap {base n c : Nat} {a : Option Addr} {w : World} {xs : List Sw} (h : OwnS base w (.slice a n c) xs) : xs.length ≤ c ∧ c ≤ maxLen := by
  rcases h.2 with ⟨e, e2⟩ | ⟨g, cap, cur, e, hg, hb, hn, hm, _⟩
  · cases e; rw [e2]; exact ⟨Nat.le_refl _, Nat.zero_le _⟩
  · cases e; exact ⟨hn, hm⟩
theorem RusAt.fn {B : Nat} {W : World} {a : Option Addr} {n : Nat} {R R' : Nat → Ru} (h : RusAt B W a n R) (e : ∀ i, i < n → R i = R' i) : RusAt B W a n R' := fun i hi => by
  rw [← e i hi]; exact h i hi
def putC (C : Nat → Option Addr × Nat) (k : Nat) (x : Option Addr × Nat) : Nat → Option Addr × Nat := fun i => if i = k then x else C i
theorem putC_list (P : Nat → Pl) (C : Nat → Option Addr × Nat) (k : Nat) (a : Option Addr) (c : Nat) : (List.range (k + 1)).map (cpV P (putC C k (a, c))) = (List.range k).map (cpV P C) ++ [.slice a (P k).len c] := by
  rw [List.range_succ, List.map_append, List.map_cons, List.map_nil]
  congr 1
  · apply List.map_congr_left
    intro i hi
    have hne : i ≠ k := by have := List.mem_range.1 hi; omega
    simp [cpV, putC, hne]
  · simp [cpV, putC]
/-- One plan more has been copied. -/
theorem copies_step {n k vc c3 a2c pkl : Nat} {va a3 a2 : Option Addr} {wr w2 w3 : World} {P : Nat → Pl} {C : Nat → Option Addr × Nat} {T T2 : TypeId} {T0 : Array Value}
    (hO : OwnV (n + 2) wr (.slice va k vc) ((List.range k).map (cpV P C))) (hC : Copies (fun b => b ≤ n + 1 ∨ (Value.slice va k vc).ownBlock = some b) wr P C k)
    (hz : wr.heap[n]? = some (.cells T0 T (0, 0))) (hu : wr.heap[n + 1]? = some (.cells #[.slice va k vc, .slice none 0 0] T2 (0, 0)))
    (hB2 : Below wr.heap.size wr w2) (hO2 : OwnS wr.heap.size w2 (.slice a2 pkl a2c) ((List.range pkl).map (P k).L)) (hpk : (P k).len = pkl) {o : Obj}
    (hO3 : OwnV (n + 2) w3 (.slice a3 (k + 1) c3) ((List.range k).map (cpV P C) ++ [.slice a2 pkl a2c])) (hG3 : (w2.alloc o).grownBy w3 (Value.slice va k vc).ownBlock)
    (hN3 : (Value.slice a3 (k + 1) c3).ownBlock = (Value.slice va k vc).ownBlock ∨ (Value.slice a3 (k + 1) c3).ownBlock = some (w2.alloc o).heap.size) :
    w3.heap[n]? = some (.cells T0 T (0, 0)) ∧ w3.heap[n + 1]? = some (.cells #[.slice va k vc, .slice none 0 0] T2 (0, 0)) ∧ Below wr.heap.size w2 (w2.alloc o) ∧
    (∀ u : Value, OwnV (n + 2) (w3.setCell ⟨n + 1, 0, none⟩ u) (.slice a3 (k + 1) c3) ((List.range (k + 1)).map (cpV P (putC C k (a2, a2c)))) ∧
      Copies (fun b => b ≤ n + 1 ∨ (Value.slice a3 (k + 1) c3).ownBlock = some b) (w3.setCell ⟨n + 1, 0, none⟩ u) P (putC C k (a2, a2c)) (k + 1)) := by
  have hzl := (Array.getElem?_eq_some_iff.1 hz).1
  have hul := (Array.getElem?_eq_some_iff.1 hu).1
  have hs2 := hB2.size
  have hsa : (w2.alloc o).heap.size = w2.heap.size + 1 := World.size_alloc _ _
  have hrow := hO.row
  have old : ∀ j, j < wr.heap.size → (Value.slice va k vc).ownBlock ≠ some j → w3.heap[j]? = wr.heap[j]? := fun j hj hne =>
    (hG3.block j (by omega) (fun e => hne e.symm)).trans ((Below.heap_alloc w2 o j (by omega)).trans (hB2.block j hj))
  have new : ∀ j, wr.heap.size ≤ j → j < w2.heap.size → w3.heap[j]? = w2.heap[j]? := fun j hj hj2 =>
    (hG3.block j (by omega) (fun e => by have := hrow j e.symm; omega)).trans (Below.heap_alloc w2 o j hj2)
  have h3s := hG3.size
  have hown3 : ∀ b, (Value.slice a3 (k + 1) c3).ownBlock = some b → (Value.slice va k vc).ownBlock = some b ∨ b = w2.heap.size + 1 := fun b hb => by
    rcases hN3 with e | e
    · exact .inl (e ▸ hb)
    · rw [hb] at e; injection e with e; right; omega
  refine ⟨(old n hzl (fun e => by have := hrow _ e; omega)).trans hz, (old (n + 1) hul (fun e => by have := hrow _ e; omega)).trans hu, (Below.refl _ w2).alloc hs2 o, fun u => ⟨?_, ?_⟩⟩
  · rw [putC_list, hpk]
    exact hO3.kept (fun j hj => heap_setCell_other _ ⟨n + 1, 0, none⟩ j _ (by have := hO3.row j hj; show j ≠ n + 1; omega))
  · intro i hi
    have sc : ∀ j, j ≠ n + 1 → (w3.setCell ⟨n + 1, 0, none⟩ u).heap[j]? = w3.heap[j]? := fun j hj => heap_setCell_other _ ⟨n + 1, 0, none⟩ j _ hj
    by_cases hik : i = k
    · subst hik
      have he : putC C i (a2, a2c) i = (a2, a2c) := if_pos rfl
      rw [he]
      have hcap := hO2.cap
      simp only [List.length_map, List.length_range] at hcap
      refine ⟨by rw [hpk]; exact hcap, ?_⟩
      have hav := hO2.av (Nb := fun b => b < wr.heap.size) (fun j hj hlt => by omega)
      simp only [List.length_map, List.length_range] at hav
      rw [hpk]
      have hfn := hav.fn (M := (P i).L) (fun j hj => by simp [List.getD, hj])
      refine hfn.kept (by simp; omega) (fun j hj hn => ?_) (fun j hj hn => ?_)
      · rw [sc j (by omega), new j (by omega) hj]
      · rintro (q | q)
        · omega
        · rcases hown3 j q with e | e
          · have := hrow j e; omega
          · omega
    · have he : putC C k (a2, a2c) i = C i := if_neg hik
      rw [he]
      obtain ⟨h1, h2⟩ := hC i (by omega)
      refine ⟨h1, h2.kept (by simp; omega) (fun j hj hn => ?_) (fun j hj hn => ?_)⟩
      · rw [sc j (fun e => hn (.inl (by omega))), old j hj (fun e => hn (.inr e))]
      · rintro (q | q)
        · exact hn (.inl q)
        · rcases hown3 j q with e | e
          · exact hn (.inr e)
          · omega
/-- What Plan answers, of any table and day. -/
def PlanN (P : Nat → Pl) (pl : Nat) (R : Nat → Ru) (rl : Nat) (s k p : Int) (is : Bool) : Prop := (PlanMay P pl R rl s k ∧ is = true ∧ PlanOf R rl s k p) ∨ (¬ PlanMay P pl R rl s k ∧ p = 0 ∧ is = false)
theorem PlanN.unique {P : Nat → Pl} {pl : Nat} {R : Nat → Ru} {rl : Nat} {s k p p' : Int} {is is' : Bool} (h : PlanN P pl R rl s k p is) (h' : PlanN P pl R rl s k p' is') : p = p' ∧ is = is' := by
  rcases h with ⟨a, rfl, c⟩ | ⟨a, rfl, rfl⟩ <;> rcases h' with ⟨a', rfl, c'⟩ | ⟨a', rfl, rfl⟩
  · exact ⟨c.unique c', rfl⟩
  · exact absurd a a'
  · exact absurd a' a
  · exact ⟨rfl, rfl⟩
def PlanNE (P : Nat → Pl) (pl : Nat) (R : Nat → Ru) (rl : Nat) (s k : Int) (e : Ending) : Prop := ∃ p is, PlanN P pl R rl s k p is ∧ e = .returned (.tuple #[.int .i64 p, .bool is])
theorem planT_any (pa : Option Addr) (pl pc : Nat) (ra : Option Addr) (rl rc : Nat) (P : Nat → Pl) (R : Nat → Ru) (s kd : Int) (w : World) (hP : PlsAt w.heap.size w pa pl P) (hR : RusAt w.heap.size w ra rl R) (hlm : pl ≤ maxLen) (hrm : rl ≤ maxLen) :
    Calls Tryz.prog 29 #[tabV pa pl pc ra rl rc, .int .i64 s, .int .i64 kd] w fun e w' => PlanNE P pl R rl s kd e ∧ Below w.heap.size w w' := by
  by_cases h : PlanMay P pl R rl s kd
  · refine (planT_yes pa pl pc ra rl rc P R s kd h w hP hR hlm hrm).mono ?_
    rintro e w' ⟨⟨p, hp, rfl⟩, hB⟩
    exact ⟨⟨p, true, .inl ⟨h, rfl, hp⟩, rfl⟩, hB⟩
  · refine (planT_no pa pl pc ra rl rc P R s kd h w hP hR hlm hrm).mono ?_
    rintro e w' ⟨rfl, hB⟩
    exact ⟨⟨0, false, .inr ⟨h, rfl, rfl⟩, rfl⟩, hB⟩
theorem rPlanT_any (pa : Option Addr) (pl pc : Nat) (ra : Option Addr) (rl rc : Nat) (P : Nat → Pl) (R : Nat → Ru) (s kd : Int) (w : World) (hP : PlsAt w.heap.size w pa pl P) (hR : RusAt w.heap.size w ra rl R) (hlm : pl ≤ maxLen) (hrm : rl ≤ maxLen) :
    Calls Tryz.prog 35 #[tabV pa pl pc ra rl rc, .int .i64 s, .int .i64 kd] w fun e w' => PlanNE P pl R rl s kd e ∧ Below w.heap.size w w' := by
  by_cases h : PlanMay P pl R rl s kd
  · refine (rPlanT_yes pa pl pc ra rl rc P R s kd h w hP hR hlm hrm).mono ?_
    rintro e w' ⟨⟨p, hp, rfl⟩, hB⟩
    exact ⟨⟨p, true, .inl ⟨h, rfl, hp⟩, rfl⟩, hB⟩
  · refine (rPlanT_no pa pl pc ra rl rc P R s kd h w hP hR hlm hrm).mono ?_
    rintro e w' ⟨rfl, hB⟩
    exact ⟨⟨0, false, .inr ⟨h, rfl, rfl⟩, rfl⟩, hB⟩
/-- The copies, as plans of a table. -/
def cpP (P : Nat → Pl) (C : Nat → Option Addr × Nat) (i : Nat) : Pl := ⟨(C i).1, (P i).len, (C i).2, (P i).L⟩
theorem copies_pls {n k vc : Nat} {va : Option Addr} {w : World} {P : Nat → Pl} {C : Nat → Option Addr × Nat} {Nb : Nat → Prop} (hO : OwnV n w (.slice va k vc) ((List.range k).map (cpV P C))) (hC : Copies Nb w P C k) : PlsAt w.heap.size w va k (cpP P C) := by
  intro i hi
  obtain ⟨g, rfl, hg, hc⟩ := hO.cells i (by simpa using hi)
  refine ⟨g, 0, rfl, hg, ?_, (hC i hi).1, (hC i hi).2.sws⟩
  rw [Nat.zero_add, hc]
  simp [cpV, cpP, hi]
end Go.Proofs.YtbffmobjiiicoaaGreatDoor.B9
end
