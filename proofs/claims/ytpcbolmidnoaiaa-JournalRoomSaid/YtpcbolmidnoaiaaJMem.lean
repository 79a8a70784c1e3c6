/- A journal in memory. -/
import Derived.Test.YtpcbolmidnoaiaaFSls
import Derived.Test.YtpcbolmidnoaiaaFScan
import Derived.Test.YtpcbolmidnoaiaaDRestartE
set_option linter.unusedVariables false
set_option linter.unusedSimpArgs false
namespace Go.Proofs.Ytpcbolmidnoaiaa
open Go.RowKit
/-- What a journal has. -/
structure Jv where
  recs : List (List Int)
  wait : List (List Int)
  place : Nat
  num : Nat
  top : Nat
  broken : Int
  len : Nat
structure Jv.Ok (J : Jv) : Prop where
  recs : ∀ L ∈ J.recs, RecL L
  wait : ∀ L ∈ J.wait, RecL L
  place : J.place ≤ 1
  num : J.num < 1000
  top : J.top < 1000
  len : 4 ≤ J.len ∧ J.len ≤ 4000
  fits : sizeN J.recs + sizeN J.wait ≤ (J.len - 2) * 128
def framesL (l : List (List Int)) : List Int := (l.map frameL).flatten
/-- The bytes of the last sector, if there is room behind them. -/
def partL (l : List (List Int)) : List Int := (framesL l).drop (sizeN l / 128 * 128)
structure JPl where
  B : Nat
  vR : Value
  vW : Value
  vP : Value
  rs : List Sl
  ws : List Sl
def jown (j : JPl) (k : Nat) : Prop := k = j.B ∨ j.vR.ownBlock = some k ∨ j.vW.ownBlock = some k
structure JAt (w : World) (D : Nat) (j : JPl) (J : Jv) : Prop where
  jr : At 72 w j.B #[ptr D, j.vR, .int .i64 (sizeN J.recs : Nat), j.vP, j.vW, .int .i64 (sizeN J.wait : Nat), .int .i64 (J.place : Nat), .int .u64 (J.num : Nat), .int .u64 (J.top : Nat), .int .i64 J.broken]
  recs : SlsAt 0 w j.vR j.rs
  wait : SlsAt 0 w j.vW j.ws
  part : Own8 0 w j.vP (partL J.recs)
  rl : j.rs.map Sl.L = J.recs
  wl : j.ws.map Sl.L = J.wait
  apart : ∀ k, j.vR.ownBlock = some k → j.vW.ownBlock ≠ some k
  ok : J.Ok
theorem own8_kept {O : Nat → Prop} {X Y : World} {v : Value} {xs : List Int} (h : Own8 0 X v xs) (hu : Upd O X Y) (hn : ∀ k cs fr, X.heap[k]? = some (.cells cs 5 fr) → ¬ O k) : Own8 0 Y v xs := by
  refine ⟨h.1, ownsRow_upd h.2 hu fun k hk => ?_⟩
  rcases h.2.2 with ⟨e, _⟩ | ⟨g, cap, cur, e, _, hh, _⟩
  · rw [e] at hk; cases hk
  · rw [e] at hk; cases hk; exact hn _ _ _ hh
theorem sls_kept {O : Nat → Prop} {X Y : World} {v : Value} {rs : List Sl} (h : SlsAt 0 X v rs) (hu : Upd O X Y) (hv : ∀ k, v.ownBlock = some k → ¬ O k) (hn : ∀ k cs fr, X.heap[k]? = some (.cells cs 5 fr) → ¬ O k) : SlsAt 0 Y v rs :=
  ⟨ownsRow_upd h.row hu hv, fun r hr => own8_kept (h.each r hr) hu hn⟩
section
variable {w w' w'' : World} {D : Nat} {j j' : JPl} {J J' : Jv} {p p' : Pl} {d e : Dv}
theorem JAt.typed (h : JAt w D j J) : ∀ k, jown j k → ∃ cs fr T, w.heap[k]? = some (.cells cs T fr) ∧ (T = 72 ∨ T = 23) := by
  rintro k (rfl | hk | hk)
  · exact ⟨_, _, _, h.jr, .inl rfl⟩
  · rcases h.recs.row.2 with ⟨e, _⟩ | ⟨g, cap, cur, e, _, hh, _⟩
    · rw [e] at hk; cases hk
    · rw [e] at hk; cases hk; exact ⟨_, _, _, hh, .inr rfl⟩
  · rcases h.wait.row.2 with ⟨e, _⟩ | ⟨g, cap, cur, e, _, hh, _⟩
    · rw [e] at hk; cases hk
    · rw [e] at hk; cases hk; exact ⟨_, _, _, hh, .inr rfl⟩
theorem JAt.lt (h : JAt w D j J) : ∀ k, jown j k → k < w.heap.size := fun k hk => by
  obtain ⟨_, _, _, e, _⟩ := h.typed k hk
  exact (Array.getElem?_eq_some_iff.1 e).1
theorem JAt.not8 (h : JAt w D j J) {b : Nat} {cs : Array Value} {fr : Nat × Nat} (hb : w.heap[b]? = some (.cells cs 5 fr)) : ¬ jown j b := fun ho => by
  obtain ⟨cs', fr', T, h1, h2⟩ := h.typed b ho
  rw [hb] at h1
  cases h1
  rcases h2 with e | e <;> exact absurd e (by decide)
theorem JAt.notInt (h : JAt w D j J) {b : Nat} {cs : Array Value} (hb : At 3 w b cs) : ¬ jown j b := fun ho => by
  obtain ⟨cs', fr', T, h1, h2⟩ := h.typed b ho
  unfold At at hb
  rw [hb] at h1
  cases h1
  rcases h2 with e | e <;> exact absurd e (by decide)
/-- No block is of the journal and of the device. -/
theorem dev_not_j (hd : DevAt w p d) (h : JAt w D j J) : ∀ k, own p k → ¬ jown j k := fun k hk hj => by
  obtain ⟨cs, fr, T, h1, h2⟩ := hd.typed k hk
  obtain ⟨cs', fr', T', h3, h4⟩ := h.typed k hj
  rw [h1] at h3
  cases h3
  rcases h2 with e | e | e <;> rcases h4 with e' | e' <;> rw [e] at e' <;> exact absurd e' (by decide)
theorem dev_not8 (hd : DevAt w p d) {b : Nat} {cs : Array Value} {fr : Nat × Nat} (hb : w.heap[b]? = some (.cells cs 5 fr)) : ¬ own p b := fun ho => by
  obtain ⟨cs', fr', T, h1, h2⟩ := hd.typed b ho
  rw [hb] at h1
  cases h1
  rcases h2 with e | e | e <;> exact absurd e (by decide)
theorem JAt.upd {O : Nat → Prop} (h : JAt w D j J) (hu : Upd O w w') (ho : ∀ k, jown j k → ¬ O k) (h8 : ∀ k cs fr, w.heap[k]? = some (.cells cs 5 fr) → ¬ O k) : JAt w' D j J :=
  ⟨h.jr.upd hu (ho _ (.inl rfl)), sls_kept h.recs hu (fun k e => ho k (.inr (.inl e))) h8, sls_kept h.wait hu (fun k e => ho k (.inr (.inr e))) h8, own8_kept h.part hu h8, h.rl, h.wl, h.apart, h.ok⟩
theorem JAt.below (h : JAt w D j J) (hb : Below w.heap.size w w') : JAt w' D j J := h.upd (Upd.of hb (fun _ => False)) (fun _ _ q => q) (fun _ _ _ _ q => q)
theorem JAt.drew (h : JAt w D j J) : JAt w.drew D j J := h.below ((Below.refl _ _).drew)
/-- A call of the device leaves the journal as it was. -/
theorem JAt.step (h : JAt w D j J) (hd : DevAt w p d) (hs : Step p p' w w') : JAt w' D j J := h.upd hs.upd (fun k hk e => dev_not_j hd h k e hk) (fun k cs fr hk => dev_not8 hd hk)
/-- What the journal writes leaves the device as it was. -/
theorem DevAt.jupd {O : Nat → Prop} (hd : DevAt w p d) (h : JAt w D j J) (hu : Upd O w w') (ho : ∀ k, O k → jown j k) : DevAt w' p d :=
  hd.upd hu (fun k hk e => dev_not_j hd h k hk (ho k e)) (fun e => h.notInt hd.b1 (ho _ e)) (fun e => h.notInt hd.b2 (ho _ e))
theorem JAt.recsBss (h : JAt w D j J) : ∃ a c, j.vR = .slice a J.recs.length c ∧ J.recs.length ≤ c ∧ BssAt w.heap.size w a J.recs := by
  obtain ⟨a, c, e, hc⟩ := h.recs.form
  have hl : j.rs.length = J.recs.length := by rw [← h.rl, List.length_map]
  have := h.recs
  rw [e] at this
  refine ⟨a, c, by rw [e, hl], by omega, ?_⟩
  rw [← h.rl]
  exact this.bss
theorem JAt.waitBss (h : JAt w D j J) : ∃ a c, j.vW = .slice a J.wait.length c ∧ J.wait.length ≤ c ∧ BssAt w.heap.size w a J.wait := by
  obtain ⟨a, c, e, hc⟩ := h.wait.form
  have hl : j.ws.length = J.wait.length := by rw [← h.wl, List.length_map]
  have := h.wait
  rw [e] at this
  refine ⟨a, c, by rw [e, hl], by omega, ?_⟩
  rw [← h.wl]
  exact this.bss
end
end Go.Proofs.Ytpcbolmidnoaiaa
