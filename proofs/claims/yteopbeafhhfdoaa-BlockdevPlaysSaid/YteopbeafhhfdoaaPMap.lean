/- The document's device: what is kept of a sector is replaced; a step of a flush or a restart. -/
import Derived.Test.YteopbeafhhfdoaaPRead
import Derived.Test.YteopbeafhhfdoaaDSec
import Derived.Test.YteopbeafhhfdoaaRRegL
set_option linter.unusedVariables false
set_option linter.unusedSimpArgs false
namespace Go.Proofs.Yteopbeafhhfdoaa
open Go.RowKit Go.Maps
theorem upd_of_grown {w w' : World} {M : Nat} (h : w.grownBy w' (some M)) : Upd (fun k => k = M) w w' := (Upd.refl _ w).grown h (fun r e => .inl (by cases e; rfl))
theorem map_store {w : World} {M u : Nat} {G : Nat → Prop} {s : List (List Int)} (h : MapAt G w M u s) (hu : u < 1000000000000) (n : Nat) (hn : n < s.length) (hb : s.length ≤ 65536) (v : Value) (L : List Int) (hv : Own8 0 w v L) (hO : Off G v) (hL : L.length = 128) :
    ∃ w', (Instr.mapUpdate 39 (.map (some M)) (.int .i64 (n : Int)) v).run Try.prog w = .ok () w' ∧ MapAt G w' M (u + 1) (s.set n L) ∧ w.grownBy w' (some M) := by
  obtain ⟨D, hD, hs⟩ := h
  have hM : ∀ k cs fr, w.heap[k]? = some (.cells cs 5 fr) → ¬ G k → ¬ (k = M) := fun k cs fr hk _ e => by
    obtain ⟨es, cl, hb, _⟩ := hD
    rw [e, hb] at hk; cases hk
  obtain ⟨w', hr, h1, h2⟩ := hD.update key_law Try.underlying39 (by unfold maxLen; omega) (key := .int .i64 (n : Int)) (val := v) (kl := .int .i64 (n : Int)) (d := .held v) (ps := []) (keyOf_int_mk Try.underlying3 (wf64 (by omega) (by omega))) rfl
  have hu := upd_of_grown h2
  have hi : IsMap D := by obtain ⟨es, clock, _, _, _, e⟩ := hD; exact ⟨_, e⟩
  refine ⟨w', hr, ⟨_, h1, fun j hj => ?_⟩, h2⟩
  rw [List.length_set] at hj
  by_cases e : j = n
  · subst e
    refine ⟨v, atKey_put_same hi (show WideAt.IsKeyLit (.int .i64 (j : Int)) from trivial) _ _, .inr ?_, hO⟩
    rw [show (s.set j L).getD j [] = L by simp [List.getD, hn]]
    exact ⟨own8_upd hv hu hO hM, hL⟩
  · obtain ⟨x, x1, x2, x3⟩ := hs j hj
    refine ⟨x, ?_, ?_, x3⟩
    · rw [atKey_put_other (by intro q; simp only [Lit.int.injEq] at q; omega)]
      exact x1
    · rw [show (s.set n L).getD j [] = s.getD j [] by simp [List.getD, List.getElem?_set, show ¬ (n = j) from fun q => e q.symm]]
      exact secV_upd x2 hu x3 hM
theorem Dv.Ok.safe {d : Dv} (h : d.Ok) {s : List (List Int)} (hl : s.length = d.safe.length) (hs : ∀ L ∈ s, Sec L) : Dv.Ok { d with safe := s } :=
  ⟨by show 0 < s.length; rw [hl]; exact h.pos, by show s.length ≤ _; rw [hl]; exact h.most, hs, fun c hc => by show 0 ≤ c.1 ∧ c.1 < (s.length : Int) ∧ _; rw [hl]; exact h.wr c hc, h.full, h.calls, h.frm, h.num, h.plan⟩
/-- One sector's bytes are replaced. -/
theorem ref_store {w : World} {q : Rl} {d : Dv} (h : RefAt w q d) (hu : q.u < 1000000000000) (n : Nat) (hn : n < d.safe.length) (v : Value) (L : List Int) (hv : Own8 0 w v L) (hO : Off q.G v) (hL : L.length = 128) :
    ∃ w', (Instr.mapUpdate 39 (.map (some q.M)) (.int .i64 (n : Int)) v).run Try.prog w = .ok () w' ∧ RefAt w' { q with u := q.u + 1 } { d with safe := d.safe.set n L } ∧ Upd (rown q) w w' := by
  obtain ⟨w', hr, hm, hg⟩ := map_store h.map hu n hn h.ok.most v L hv hO hL
  obtain ⟨a1, a2⟩ := h.apart
  have hM := upd_of_grown hg
  have h8 : ∀ k cs fr, w.heap[k]? = some (.cells cs 5 fr) → ¬ q.G k → ¬ (k = q.M) := fun k cs fr hk _ e => h.not8 hk (.inr (.inl e))
  have hs : ∀ L' ∈ d.safe.set n L, Sec L' := fun L' hL' => by
    rcases List.mem_or_eq_of_mem_set hL' with e | e
    · exact h.ok.secs _ e
    · rw [e]; exact ⟨hL, hv.1⟩
  refine ⟨w', hr, ⟨?_, hm, ownsRow_upd h.cache hM (fun k e => (a2 k e).2), h.len, fun k a b => ⟨(h.rows k a b).1, own8_upd (h.rows k a b).2.1 hM (h.rows k a b).2.2 h8, (h.rows k a b).2.2⟩, h.ok.safe (by simp) hs, fun k hk => Nat.lt_of_lt_of_le (h.low k hk) hM.size⟩, hM.mono (fun k e => .inr (.inl e))⟩
  have := h.dev.upd hM a1
  show At _ w' q.D #[.int .i64 ((d.safe.set n L).length : Nat), _, _, _, _, _]
  rw [List.length_set]
  exact this
theorem exec_mapU {o : Oper} {a : Act} {m x y : Operand} {w w' : World} {T : TypeId} {vm vx vy : Value} (ho : o.op = .mapUpdate T m x y) (hm : a.eval m = vm) (hx : a.eval x = vx) (hy : a.eval y = vy) (hr : (Instr.mapUpdate T vm vx vy).run Try.prog w = .ok () w') : (execOp a.eval o).run Try.prog w = .ok .skip w' := by
  simp [execOp, ho, hm, hx, hy, hr, Result.andThen]
/-- One write after another. -/
theorem rapplied_app (len : Nat → Nat) : ∀ (c c' : List (Int × List Int)) (j : Nat), applied len j (c ++ c') = applied len j c ++ applied len (j + c.length) c'
  | [], c', j => by simp [applied]
  | x :: c, c', j => by
    have e := rapplied_app len c c' (j + 1)
    rw [show j + 1 + c.length = j + (c.length + 1) by omega] at e
    by_cases h : len j = 0
    · simp [applied, h, e]
    · simp [applied, h, e]
theorem apply_step (len : Nat → Nat) (c : List (Int × List Int)) (k : Nat) (hk : k < c.length) (s : List (List Int)) (hn : c[k].1.toNat < s.length) :
    putAll (applied len 0 (c.take (k + 1))) s = putS (putAll (applied len 0 (c.take k)) s) c[k].1 c[k].2 (len k) := by
  have e : c.take (k + 1) = c.take k ++ [c[k]] := List.take_succ_eq_append_getElem hk
  have hl := putAll_len (applied len 0 (c.take k)) s
  rw [e, rapplied_app, Nat.zero_add, List.length_take, Nat.min_eq_left (by omega)]
  unfold putAll at hl ⊢
  rw [List.foldl_append]
  generalize List.foldl (fun s y => putS s y.1.1 y.1.2 y.2) s (applied len 0 (c.take k)) = S at *
  by_cases h : len k = 0
  · simp only [applied, h, if_true, List.foldl_nil]
    unfold putS
    rw [List.take_zero, List.nil_append, List.drop_zero]
    have hn' : c[k].1.toNat < S.length := by rw [hl]; exact hn
    apply List.ext_getElem?
    intro i
    rw [List.getElem?_set]
    by_cases e : c[k].1.toNat = i
    · rw [if_pos e, if_pos hn', ← e]; simp [List.getD, hn']
    · rw [if_neg e]
  · simp only [applied, h, if_false, List.foldl_cons, List.foldl_nil]
/-- What is kept behind k writes. -/
def Dv.part (d : Dv) (len : Nat → Nat) (k : Nat) : Dv := { d with safe := putAll (applied len 0 (d.cache.take k)) d.safe }
theorem part_zero (d : Dv) (len : Nat → Nat) : d.part len 0 = d := rfl
theorem part_step {d : Dv} (h : d.Ok) (len : Nat → Nat) (k : Nat) (hk : k < d.cache.length) : ∃ n : Nat, (d.cache[k]).1 = n ∧ n < (d.part len k).safe.length ∧ n < d.safe.length ∧ (d.part len (k + 1)) = { d.part len k with safe := (d.part len k).safe.set n ((d.cache[k]).2.take (len k) ++ ((d.part len k).safe.getD n []).drop (len k)) } := by
  obtain ⟨h0, h1, h2⟩ := h.wr _ (List.getElem_mem hk)
  have hl : (d.part len k).safe.length = d.safe.length := putAll_len _ _
  refine ⟨(d.cache[k]).1.toNat, by omega, by rw [hl]; omega, by omega, ?_⟩
  unfold Dv.part
  rw [apply_step len d.cache k hk d.safe (by omega)]
  rfl
theorem part_end (d : Dv) (len : Nat → Nat) : { d.part len d.cache.length with cache := [] } = d.apply len := by unfold Dv.part Dv.apply; rw [List.take_length]
end Go.Proofs.Yteopbeafhhfdoaa
