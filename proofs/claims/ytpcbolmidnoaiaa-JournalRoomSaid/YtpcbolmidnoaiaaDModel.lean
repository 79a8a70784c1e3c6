/- What a device is: its sectors, its cache, its plan. -/
import Derived.Test.YtpcbolmidnoaiaaS8
set_option linter.unusedVariables false
namespace Go.Proofs.Ytpcbolmidnoaiaa
/-- The bytes of a sector. -/
def Sec (L : List Int) : Prop := L.length = 128 ∧ ∀ x ∈ L, 0 ≤ x ∧ x < 256
structure Dv where
  safe : List (List Int)
  cache : List (Int × List Int)
  frm : Int
  num : Int
  calls : Int
  down : Bool
structure Dv.Ok (d : Dv) : Prop where
  pos : 0 < d.safe.length
  most : d.safe.length ≤ 65536
  secs : ∀ L ∈ d.safe, Sec L
  wr : ∀ c ∈ d.cache, 0 ≤ c.1 ∧ c.1 < d.safe.length ∧ Sec c.2
  full : d.cache.length ≤ 256
  calls : 0 ≤ d.calls
  frm : 0 ≤ d.frm ∧ d.frm ≤ d.calls
  num : 0 ≤ d.num ∧ d.num ≤ 9223372036854775807
  plan : d.num = 0 ∨ d.calls - d.frm < d.num ∨ d.down = true ∧ d.calls - d.frm = d.num
/-- A counted call. -/
def Dv.counted (d : Dv) : Dv := { d with calls := d.calls + 1, down := decide (d.calls + 1 - d.frm = d.num) }
def downE (b : Bool) : Int := if b then 120 else 0
def lastOf (c : List (Int × List Int)) (n : Int) : Option (List Int) := (c.reverse.find? (fun x => decide (x.1 = n))).map (·.2)
def Dv.at (d : Dv) (n : Int) : List Int := d.safe.getD n.toNat []
def Dv.read (d : Dv) (n : Int) : List Int := (lastOf d.cache n).getD (d.at n)
def HasN (d : Dv) (n : Int) : Prop := 0 ≤ n ∧ n < d.safe.length
instance (d : Dv) (n : Int) : Decidable (HasN d n) := by unfold HasN; infer_instance
/-- The error of a call that asks sector n. -/
def accE (d : Dv) (n : Int) : Int := if d.down then 120 else if HasN d n then 0 else 121
/-- The first m bytes of a write. -/
def putS (s : List (List Int)) (n : Int) (L : List Int) (m : Nat) : List (List Int) := s.set n.toNat (L.take m ++ (s.getD n.toNat []).drop m)
/-- The writes of which more than no bytes are applied, and how many. -/
def applied (len : Nat → Nat) : Nat → List (Int × List Int) → List ((Int × List Int) × Nat)
  | _, [] => []
  | k, x :: c => if len k = 0 then applied len (k + 1) c else (x, len k) :: applied len (k + 1) c
def putAll (xs : List ((Int × List Int) × Nat)) (s : List (List Int)) : List (List Int) := xs.foldl (fun s y => putS s y.1.1 y.1.2 y.2) s
def Dv.apply (d : Dv) (len : Nat → Nat) : Dv := { d with safe := putAll (applied len 0 d.cache) d.safe, cache := [] }
/-- Write. -/
def writeE (d : Dv) (n : Int) (len : Nat) : Int := if accE d n ≠ 0 then accE d n else if len ≠ 128 then 2 else if d.cache.length = 256 then 122 else downE d.counted.down
def Dv.write (d : Dv) (n : Int) (L : List Int) : Dv := if accE d n ≠ 0 ∨ L.length ≠ 128 ∨ d.cache.length = 256 then d else { d with cache := d.cache ++ [(n, L)] }.counted
/-- Flush. -/
def flushE (d : Dv) : Int := if d.down then 120 else downE d.counted.down
def Dv.flush (d : Dv) : Dv := if d.down then d else if d.counted.down then d.counted else d.counted.apply (fun _ => 128)
/-- Plan. -/
def planE (d : Dv) (n : Int) : Int := if d.down then 120 else if n < 0 then 2 else 0
def Dv.plan (d : Dv) (n : Int) : Dv := if planE d n ≠ 0 then d else { d with frm := d.calls, num := n }
def Dv.pull (d : Dv) : Dv := { d with down := true }
/-- How many bytes of write k a crash applies. -/
def leftN (K : List Int) (torn at_ : Int) (k : Nat) : Nat :=
  if (k : Int) = torn then (min (max at_ 0) 128).toNat else if k / 8 < K.length ∧ (K.getD (k / 8) 0).toNat / 2 ^ (k % 8) % 2 = 1 then 128 else 0
def restartE (d : Dv) : Int := if d.down then 0 else 2
def Dv.restart (d : Dv) (len : Nat → Nat) : Dv := if d.down then { d.apply len with frm := d.calls, num := 0, down := false } else d
def Dv.new (m : Nat) : Dv := ⟨List.replicate m (List.replicate 128 0), [], 0, 0, 0, false⟩
theorem putS_len (s : List (List Int)) (n : Int) (L : List Int) (m : Nat) : (putS s n L m).length = s.length := by unfold putS; simp
theorem putAll_len : ∀ (xs : List ((Int × List Int) × Nat)) (s : List (List Int)), (putAll xs s).length = s.length
  | [], _ => rfl
  | y :: xs, s => by show (putAll xs (putS s y.1.1 y.1.2 y.2)).length = _; rw [putAll_len xs, putS_len]
theorem sec_mix {L M : List Int} (hL : Sec L) (hM : Sec M) (m : Nat) : Sec (L.take m ++ M.drop m) := by
  refine ⟨by rw [List.length_append, List.length_take, List.length_drop, hL.1, hM.1]; omega, fun x hx => ?_⟩
  rcases List.mem_append.1 hx with h | h
  · exact hL.2 x (List.mem_of_mem_take h)
  · exact hM.2 x (List.mem_of_mem_drop h)
theorem secs_get {s : List (List Int)} (h : ∀ L ∈ s, Sec L) {i : Nat} (hi : i < s.length) : Sec (s.getD i []) := by
  rw [show s.getD i [] = s[i] by simp [List.getD, hi]]
  exact h _ (List.getElem_mem hi)
theorem putS_secs {s : List (List Int)} (h : ∀ L ∈ s, Sec L) {n : Int} {L : List Int} (hL : Sec L) (m : Nat) (hn : n.toNat < s.length) : ∀ L' ∈ putS s n L m, Sec L' := by
  intro L' h'
  rcases List.mem_or_eq_of_mem_set h' with h1 | h1
  · exact h _ h1
  · rw [h1]; exact sec_mix hL (secs_get h hn) m
theorem applied_mem (len : Nat → Nat) : ∀ (c : List (Int × List Int)) (k : Nat) (y : (Int × List Int) × Nat), y ∈ applied len k c → y.1 ∈ c ∧ ∃ j, k ≤ j ∧ y.2 = len j
  | [], _, _, h => by cases h
  | x :: c, k, y, h => by
    unfold applied at h
    split at h
    · obtain ⟨h1, j, h2, h3⟩ := applied_mem len c (k + 1) y h
      exact ⟨List.mem_cons_of_mem _ h1, j, by omega, h3⟩
    · rcases List.mem_cons.1 h with rfl | h
      · exact ⟨List.mem_cons_self, k, Nat.le_refl _, rfl⟩
      · obtain ⟨h1, j, h2, h3⟩ := applied_mem len c (k + 1) y h
        exact ⟨List.mem_cons_of_mem _ h1, j, by omega, h3⟩
theorem putAll_secs : ∀ (xs : List ((Int × List Int) × Nat)) (s : List (List Int)), (∀ L ∈ s, Sec L) → (∀ y ∈ xs, Sec y.1.2 ∧ y.1.1.toNat < s.length) → ∀ L ∈ putAll xs s, Sec L
  | [], _, h, _ => h
  | y :: xs, s, h, hx => by
    refine putAll_secs xs _ (putS_secs h (hx y List.mem_cons_self).1 y.2 (hx y List.mem_cons_self).2) (fun z hz => ?_)
    rw [putS_len]
    exact hx z (List.mem_cons_of_mem _ hz)
theorem Dv.Ok.counted {d : Dv} (h : d.Ok) (hu : d.down = false) : d.counted.Ok := by
  obtain ⟨h1, h2, h3, h4, h5, h6, h7, h8, h9⟩ := h
  refine ⟨h1, h2, h3, h4, h5, by show 0 ≤ d.calls + 1; omega, by show 0 ≤ d.frm ∧ d.frm ≤ d.calls + 1; omega, h8, ?_⟩
  show d.num = 0 ∨ d.calls + 1 - d.frm < d.num ∨ decide (d.calls + 1 - d.frm = d.num) = true ∧ d.calls + 1 - d.frm = d.num
  rw [hu] at h9
  by_cases e : d.calls + 1 - d.frm = d.num
  · exact .inr (.inr ⟨by simpa using e, e⟩)
  · rcases h9 with h | h | h
    · exact .inl h
    · exact .inr (.inl (by omega))
    · exact absurd h.1 (by simp)
theorem Dv.Ok.apply {d : Dv} (h : d.Ok) (len : Nat → Nat) : (d.apply len).Ok := by
  refine ⟨by show 0 < (putAll _ _).length; rw [putAll_len]; exact h.pos, by show (putAll _ _).length ≤ _; rw [putAll_len]; exact h.most, ?_, fun c hc => (by cases hc), Nat.zero_le _, h.calls, h.frm, h.num, h.plan⟩
  refine putAll_secs _ _ h.secs fun y hy => ?_
  obtain ⟨h1, _⟩ := applied_mem len _ _ _ hy
  obtain ⟨a, b, c⟩ := h.wr _ h1
  exact ⟨c, by omega⟩
theorem Dv.Ok.write {d : Dv} (h : d.Ok) (n : Int) {L : List Int} (hL : ∀ x ∈ L, 0 ≤ x ∧ x < 256) : (d.write n L).Ok := by
  unfold Dv.write
  split
  · exact h
  · rename_i hn
    have h0 : accE d n = 0 := Classical.byContradiction fun e => hn (.inl e)
    have h1 : L.length = 128 := Classical.byContradiction fun e => hn (.inr (.inl e))
    have h2 : d.cache.length ≠ 256 := fun e => hn (.inr (.inr e))
    unfold accE at h0
    cases hu : d.down with
    | true => rw [hu] at h0; simp at h0
    | false =>
      rw [hu] at h0
      by_cases hh : HasN d n
      · refine Dv.Ok.counted (d := { d with cache := d.cache ++ [(n, L)] }) ⟨h.pos, h.most, h.secs, ?_, ?_, h.calls, h.frm, h.num, h.plan⟩ hu
        · intro c hc
          rcases List.mem_append.1 hc with q | q
          · exact h.wr c q
          · rw [List.mem_singleton.1 q]; exact ⟨hh.1, hh.2, h1, hL⟩
        · have := h.full
          show (d.cache ++ [(n, L)]).length ≤ 256
          simp; omega
      · rw [if_neg (by simp), if_neg hh] at h0; cases h0
theorem Dv.Ok.flush {d : Dv} (h : d.Ok) : d.flush.Ok := by
  unfold Dv.flush
  cases hu : d.down with
  | true => simpa using h
  | false =>
    have hc := h.counted hu
    split
    · exact h
    · split
      · exact hc
      · exact hc.apply _
theorem Dv.Ok.plan' {d : Dv} (h : d.Ok) {n : Int} (hn : n ≤ 9223372036854775807) : (d.plan n).Ok := by
  unfold Dv.plan
  split
  · exact h
  · rename_i hp
    have hp : planE d n = 0 := Classical.byContradiction hp
    unfold planE at hp
    refine ⟨h.pos, h.most, h.secs, h.wr, h.full, h.calls, ⟨h.calls, Int.le_refl _⟩, ?_, ?_⟩
    · show 0 ≤ n ∧ n ≤ _
      split at hp
      · cases hp
      · split at hp
        · cases hp
        · omega
    · show n = 0 ∨ d.calls - d.calls < n ∨ _
      split at hp
      · cases hp
      · split at hp
        · cases hp
        · omega
theorem Dv.Ok.pull {d : Dv} (h : d.Ok) : d.pull.Ok := by
  obtain ⟨h1, h2, h3, h4, h5, h6, h7, h8, h9⟩ := h
  refine ⟨h1, h2, h3, h4, h5, h6, h7, h8, ?_⟩
  rcases h9 with h | h | h
  · exact .inl h
  · exact .inr (.inl h)
  · exact .inr (.inr ⟨rfl, h.2⟩)
theorem Dv.Ok.restart {d : Dv} (h : d.Ok) (len : Nat → Nat) : (d.restart len).Ok := by
  unfold Dv.restart
  split
  · have := h.apply len
    exact ⟨this.pos, this.most, this.secs, this.wr, this.full, this.calls, ⟨h.calls, Int.le_refl _⟩, ⟨Int.le_refl _, by show (0 : Int) ≤ _; omega⟩, .inl rfl⟩
  · exact h
theorem Dv.new_ok {m : Nat} (h0 : 0 < m) (h1 : m ≤ 65536) : (Dv.new m).Ok := by
  refine ⟨by show 0 < (List.replicate _ _).length; simpa using h0, by show (List.replicate _ _).length ≤ _; simpa using h1, ?_, fun c hc => (by cases hc), Nat.zero_le _, Int.le_refl _, ⟨Int.le_refl _, Int.le_refl _⟩, ⟨Int.le_refl _, by show (0 : Int) ≤ _; omega⟩, .inl rfl⟩
  intro L hL
  rw [List.eq_of_mem_replicate hL]
  exact ⟨by simp, fun x hx => by rw [List.eq_of_mem_replicate hx]; omega⟩
end Go.Proofs.Ytpcbolmidnoaiaa
