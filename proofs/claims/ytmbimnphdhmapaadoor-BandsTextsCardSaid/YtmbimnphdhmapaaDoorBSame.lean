/- The statements' same. -/
import Derived.Test.YtmbimnphdhmapaaDoorBPlan
import Derived.Laws.StructEq
set_option linter.unusedVariables false
set_option linter.unusedSimpArgs false
namespace Go.Proofs.YtmbimnphdhmapaaDoor
open Go.RowKit Go.Shelf
abbrev swV (s : Sw) : Value := .agg #[.int .i64 s.m, .int .i64 s.b]
theorem sw_fields : Tryd.prog.underlying 39 = some (.struct (Tryd.prog.fieldsOf 39)) := by kernel_rfl
theorem sw_stood : Tryd.prog.stoodInHeld 39 = false := by kernel_rfl
theorem eqF_cons {P : Program} {w : World} {d : Nat} {xs ys : Array Value} {f : Field} {fs : List Field} {a b : Int} (hn : f.name ≠ "_") (hp : (part f.type xs f.offset).run P w = .ok (.int .i64 a) w) (hq : (part f.type ys f.offset).run P w = .ok (.int .i64 b) w) (ht : P.underlying f.type = some (.int .i64)) :
    (Op.eqFields (d + 1) xs ys (f :: fs)).run P w = if (a == b) = true then (Op.eqFields (d + 1) xs ys fs).run P w else .ok false w := by
  rw [Op.eqFields, if_pos hn]
  simp only [Sem.run_bind, hp, hq, Result.andThen_ok, run_equalIn_int w d f.type .i64 .i64 a b ht]
  cases h : (a == b) <;> simp
theorem eqF_nil {P : Program} {w : World} {d : Nat} {xs ys : Array Value} : (Op.eqFields d xs ys []).run P w = .ok true w := by simp [Op.eqFields]
set_option maxRecDepth 100000 in
theorem neq_sw (m b m' b' : Int) (w : World) : (binOp .neq 39 (.agg #[.int .i64 m, .int .i64 b]) (.agg #[.int .i64 m', .int .i64 b'])).run Tryd.prog w = .ok (.bool (!((m == m') && (b == b')))) w := by
  have hu := Tryd.underlying39
  have hi := Tryd.underlying3
  have c1 : Tryd.prog.cellsOf 3 = 1 := by kernel_rfl
  rw [run_neq_struct, run_equalIn_struct w 9999 _ _ _ sw_fields sw_stood]
  simp only [Program.fieldsOf, hu]
  rw [eqF_cons (a := m) (b := m') (by decide) (by simp [go_sem]) (by simp [go_sem]) hi, eqF_cons (a := b) (b := b') (by decide) (by simp [go_sem]) (by simp [go_sem]) hi, eqF_nil]
  try simp only []
  cases (m == m') <;> cases (b == b') <;> rfl
/-- The two lists have the same switches. -/
def Alike (L : Nat → Sw) (n : Nat) (M : Nat → Sw) (n' : Nat) : Prop := n = n' ∧ ∀ i, i < n → L i = M i
instance (L : Nat → Sw) (n : Nat) (M : Nat → Sw) (n' : Nat) : Decidable (Alike L n M n') := by unfold Alike; infer_instance
set_option maxRecDepth 100000 in
set_option maxHeartbeats 4000000 in
theorem same_any (a : Option Addr) (len cap : Nat) (L : Nat → Sw) (a2 : Option Addr) (len2 cap2 : Nat) (M : Nat → Sw) (w : World) (hA : SwsAt w.heap.size w a len L) (hM : SwsAt w.heap.size w a2 len2 M) (hlm : len ≤ maxLen) (hlm2 : len2 ≤ maxLen) :
    Calls Tryd.prog 11 #[.slice a len cap, .slice a2 len2 cap2] w fun e w' => e = .returned (.bool (decide (Alike L len M len2))) ∧ Below w.heap.size w w' := by
  unfold maxLen at hlm hlm2
  by_cases hn : len = len2
  · subst hn
    have g0 : ((len : Int) != len) = false := by simp
    have HA := Lib.hid hA
    have HM := Lib.hid hM
    clear hA hM
    go_enter Tryd.func11, Tryd.ntmps11
    go_wp2
    go_loopw [13] (fun i wr => ∃ k : Nat, k ≤ len ∧ i = .int .i64 k ∧ (∀ j, j < k → L j = M j) ∧ Below w.heap.size w wr) (fun i _ => (len - intOf i).toNat)
    case atStart => exact ⟨0, Nat.zero_le _, rfl, fun j hj => absurd hj (Nat.not_lt_zero _), Below.refl _ _⟩
    case round =>
      obtain ⟨k, hk, rfl, hall, hb⟩ := hrel
      have HALL := Lib.hid hall
      have HB := Lib.hid hb
      clear hall hb
      by_cases hlt : k < len
      · have hlti : (k : Int) < len := by omega
        obtain ⟨b, o, rfl, h1⟩ := (HA.out.next HB.out (Nat.le_refl _) (Nat.le_refl _)).base (by omega)
        obtain ⟨b', o', rfl, h2⟩ := (HM.out.next HB.out (Nat.le_refl _) (Nat.le_refl _)).base (by omega)
        obtain ⟨c0, c1⟩ := h1 k hlt
        obtain ⟨d0, d1⟩ := h2 k hlt
        obtain ⟨s, hs⟩ : ∃ s, L k = s := ⟨_, rfl⟩
        obtain ⟨t, ht⟩ : ∃ t, M k = t := ⟨_, rfl⟩
        rw [hs] at c0 c1
        rw [ht] at d0 d1
        obtain ⟨sm, sb⟩ := s
        obtain ⟨tm, tb⟩ := t
        simp only at c0 c1 d0 d1
        have hne := neq_sw sm sb tm tb
        obtain ⟨f, hf⟩ : ∃ f, (!((sm == tm) && (sb == tb))) = f := ⟨_, rfl⟩
        rw [hf] at hne
        have HS := Lib.hid hs
        have HT := Lib.hid ht
        have HF := Lib.hid hf
        clear h1 h2 hs ht hf
        cases f
        · have HE := Lib.hid (show L k = M k by
            have h := HF.out
            rw [HS.out, HT.out]
            simp at h
            rw [h.1, h.2])
          go_wp2_with fail
          go_quiet (fail)
          go_wp2
          go_roundw
          case rel => exact ⟨k + 1, by omega, by go_num, fun j hj => by rcases Nat.lt_succ_iff_lt_or_eq.1 hj with q | q; exact HALL.out j q; rw [q]; exact HE.out, below_drewN HB.out _⟩
          case measure => first | (simp [intOf]; done) | (simp [intOf]; omega)
        · have HNO := Lib.hid (show decide (Alike L len M len) = false from decide_eq_false (fun q => by
            have h := HF.out
            have e := q.2 k hlt
            rw [HS.out, HT.out] at e
            injection e with e1 e2
            rw [e1, e2] at h
            simp at h))
          go_wp2_with fail
          go_quiet (fail)
          go_wp2
          go_ret
          rw [HNO.out]
          exact ⟨rfl, below_drewN HB.out _⟩
      · have hke : k = len := by omega
        subst hke
        have HYES := Lib.hid (show decide (Alike L k M k) = true from decide_eq_true ⟨rfl, HALL.out⟩)
        go_wp2
        go_ret
        rw [HYES.out]
        exact ⟨rfl, HB.out⟩
  · have g0 : ((len : Int) != len2) = true := by simp; omega
    rw [decide_eq_false (fun q => hn q.1)]
    clear hA hM
    go_enter Tryd.func11, Tryd.ntmps11
    go_wp2
    go_ret
    exact ⟨rfl, Below.refl _ _⟩
end Go.Proofs.YtmbimnphdhmapaaDoor
