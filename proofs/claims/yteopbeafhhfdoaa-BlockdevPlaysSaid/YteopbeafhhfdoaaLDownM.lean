/- A device that is up, without a plan and under one. -/
import Derived.Test.YteopbeafhhfdoaaLOp
set_option linter.unusedVariables false
set_option linter.unusedSimpArgs false
namespace Go.Proofs.Yteopbeafhhfdoaa
open Go.RowKit
theorem write_is (d : Dv) (n : Int) (L : List Int) : (d.write n L = d ∧ (accE d n ≠ 0 ∨ L.length ≠ 128 ∨ d.cache.length = 256)) ∨ (accE d n = 0 ∧ L.length = 128 ∧ d.cache.length ≠ 256 ∧ d.write n L = ({ d with cache := d.cache ++ [(n, L)] } : Dv).counted) := by
  unfold Dv.write
  by_cases h : accE d n ≠ 0 ∨ L.length ≠ 128 ∨ d.cache.length = 256
  · rw [if_pos h]; exact .inl ⟨rfl, h⟩
  · rw [if_neg h]
    exact .inr ⟨Classical.byContradiction fun e => h (.inl e), Classical.byContradiction fun e => h (.inr (.inl e)), fun e => h (.inr (.inr e)), rfl⟩
theorem write_down {d : Dv} (h : d.down = true) (n : Int) (L : List Int) (k : Nat) : writeE d n k = 120 ∧ d.write n L = d := by
  have e : accE d n = 120 := by unfold accE; rw [if_pos h]
  unfold writeE Dv.write
  rw [e]
  exact ⟨by rw [if_pos (by decide)], by rw [if_pos (.inl (by decide))]⟩
theorem flush_down {d : Dv} (h : d.down = true) : flushE d = 120 ∧ d.flush = d := by
  unfold flushE Dv.flush
  rw [if_pos h, if_pos h]; exact ⟨rfl, rfl⟩
theorem plan_down {d : Dv} (h : d.down = true) (n : Int) : planE d n = 120 ∧ d.plan n = d := by
  have e : planE d n = 120 := by unfold planE; rw [if_pos h]
  unfold Dv.plan
  rw [e]
  exact ⟨rfl, by rw [if_pos (by decide)]⟩
/-- Up, without a plan. -/
structure UpD (d : Dv) (k : Nat) : Prop where
  up : d.down = false
  num : d.num = 0
  len : d.safe.length = 8
  calls : d.calls ≤ k
theorem UpD.write {d : Dv} {k : Nat} (h : UpD d k) (ok : d.Ok) (n : Int) (L : List Int) : UpD (d.write n L) (k + 1) := by
  rcases write_is d n L with ⟨e, _⟩ | ⟨_, _, _, e⟩
  · rw [e]; exact ⟨h.up, h.num, h.len, by have := h.calls; omega⟩
  · rw [e]
    refine ⟨?_, h.num, h.len, by have := h.calls; show d.calls + 1 ≤ _; omega⟩
    show decide (d.calls + 1 - d.frm = d.num) = false
    have := ok.frm; have := ok.calls; have := h.num
    exact decide_eq_false (by omega)
theorem UpD.counted {d : Dv} {k : Nat} (h : UpD d k) (ok : d.Ok) : d.counted.down = false := by
  show decide (d.calls + 1 - d.frm = d.num) = false
  have := ok.frm; have := ok.calls; have := h.num
  exact decide_eq_false (by omega)
theorem UpD.flush {d : Dv} {k : Nat} (h : UpD d k) (ok : d.Ok) : flushE d = 0 ∧ UpD d.flush (k + 1) ∧ d.flush.cache = [] := by
  have hc := h.counted ok
  unfold flushE Dv.flush
  rw [h.up, if_neg (by simp), if_neg (by simp), hc, if_neg (by simp)]
  exact ⟨rfl, ⟨hc, h.num, by show (putAll _ _).length = 8; rw [putAll_len]; exact h.len, by have := h.calls; show d.calls + 1 ≤ _; omega⟩, rfl⟩
/-- Under a plan. -/
structure PlD (C n : Int) (d : Dv) (k : Nat) : Prop where
  frm : d.frm = C
  num : d.num = n
  len : d.safe.length = 8
  at_ : d.down = true → d.calls = C + n
  ahead : d.down = false → d.calls < C + n
  calls : d.calls ≤ k
theorem PlD.plan {d : Dv} {k : Nat} (h : UpD d k) {n : Int} (hn : 0 < n) : planE d n = 0 ∧ PlD d.calls n (d.plan n) k := by
  have e : planE d n = 0 := by unfold planE; rw [h.up, if_neg (by simp), if_neg (by omega)]
  unfold Dv.plan
  rw [e, if_neg (by decide)]
  exact ⟨rfl, rfl, rfl, h.len, (fun q => by have := h.up; rw [show d.down = true from q] at this; cases this), fun _ => by show d.calls < d.calls + n; omega, h.calls⟩
theorem PlD.write {C n : Int} {d : Dv} {k : Nat} (h : PlD C n d k) (m : Int) (L : List Int) : PlD C n (d.write m L) (k + 1) ∧ (d.down = false → writeE d m L.length = 120 → (d.write m L).calls = C + n) := by
  rcases write_is d m L with ⟨e, hc⟩ | ⟨h0, h1, h2, e⟩
  · rw [e]
    refine ⟨⟨h.frm, h.num, h.len, h.at_, h.ahead, by have := h.calls; omega⟩, fun hu he => ?_⟩
    unfold writeE at he
    by_cases h0 : accE d m = 0
    · rw [if_neg (by simpa using h0)] at he
      rcases hc with q | q | q
      · exact absurd h0 q
      · rw [if_pos q] at he; cases he
      · rw [if_pos q] at he
        split at he <;> cases he
    · rw [if_pos h0] at he
      unfold accE at he
      rw [hu, if_neg (by simp)] at he
      split at he <;> cases he
  · rw [e]
    have hu : d.down = false := by
      unfold accE at h0
      cases hd : d.down with
      | true => rw [hd] at h0; cases h0
      | false => rfl
    have ha := h.ahead hu
    have hf := h.frm
    have hn := h.num
    refine ⟨⟨h.frm, h.num, h.len, fun q => ?_, fun q => ?_, by have := h.calls; show d.calls + 1 ≤ _; omega⟩, fun _ he => ?_⟩
    · have q : decide (d.calls + 1 - d.frm = d.num) = true := q
      have := of_decide_eq_true q
      show d.calls + 1 = C + n
      omega
    · have q : decide (d.calls + 1 - d.frm = d.num) = false := q
      have := of_decide_eq_false q
      show d.calls + 1 < C + n
      omega
    · unfold writeE at he
      rw [if_neg (by simpa using h0), if_neg (by simpa using h1), if_neg h2] at he
      have q : decide (d.calls + 1 - d.frm = d.num) = true := by
        have he : downE (decide (d.calls + 1 - d.frm = d.num)) = 120 := he
        cases hq : decide (d.calls + 1 - d.frm = d.num) with
        | true => rfl
        | false => rw [hq] at he; cases he
      have := of_decide_eq_true q
      show d.calls + 1 = C + n
      omega
theorem GreatE.yes {len : Nat} {L : Nat → Opn} {e : Ending} (h : GreatE len L e) (hg : GreatIs len L) : e = .returned (.int .i64 0) := h.elim (fun q => q.2) (fun q => absurd hg q.1)
theorem GreatE.no {len : Nat} {L : Nat → Opn} {e : Ending} (h : GreatE len L e) (hg : ¬ GreatIs len L) : e = .returned (.int .i64 1) := h.elim (fun q => absurd q.1 hg) (fun q => q.2)
theorem great_yes {B : Nat} {a : Option Addr} {len cap : Nat} {L : Nat → Opn} {w : World} (hA : OpsAt B w a len L) (hg : GreatIs len L) :
    Calls Try.prog 7 #[.slice a len cap] w fun e w' => e = .returned (.int .i64 0) ∧ w = w' := (great_any B a len cap L w hA).mono (fun e w' h => ⟨h.1.yes hg, h.2⟩)
theorem great_no {B : Nat} {a : Option Addr} {len cap : Nat} {L : Nat → Opn} {w : World} (hA : OpsAt B w a len L) (hg : ¬ GreatIs len L) :
    Calls Try.prog 7 #[.slice a len cap] w fun e w' => e = .returned (.int .i64 1) ∧ w = w' := (great_any B a len cap L w hA).mono (fun e w' h => ⟨h.1.no hg, h.2⟩)
theorem read_in {w : World} {p : Pl} {d : Dv} (h : DevAt w p d) {n : Int} (hn : HasN d n) : ∀ j, j < 128 → 0 ≤ (d.at n).getD j 0 ∧ (d.at n).getD j 0 < 256 := fun j hj => by
  have hs : Sec (d.at n) := secs_get h.ok.secs (by have := hn.1; have := hn.2; omega)
  exact hs.2 _ (by rw [show (d.at n).getD j 0 = (d.at n)[j]'(by rw [hs.1]; exact hj) by simp [List.getD, hs.1, hj]]; exact List.getElem_mem _)
/-- The bytes of a sector, as a row of the call's own. -/
theorem row_of_at {T : TypeId} {W : World} {g : Nat} {L : List Int} (h : At T W g (vals8 L).toArray) (hl : L.length = 128) : Row8 g 128 (fun j => L.getD j 0) W := fun j hj =>
  ⟨by rw [h.cell]; simpa using vals8_get L j (by omega), h.free j⟩
end Go.Proofs.Yteopbeafhhfdoaa
