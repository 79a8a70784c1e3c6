/- The program's Plan of a table. -/
import Derived.Test.YtmbimnphdhmapaaDoorBTabC
set_option linter.unusedVariables false
set_option linter.unusedSimpArgs false
namespace Go.Proofs.YtmbimnphdhmapaaDoor
open Go.RowKit Go.Shelf
set_option maxRecDepth 100000 in
set_option maxHeartbeats 2000000 in
theorem holds_any (r : Ru) (s k : Int) (Bs Bk : Nat) (w : World) (hs : w.heap[Bs]? = some (.cells #[.int .i64 s] 3 (0, 0))) (hk : w.heap[Bk]? = some (.cells #[.int .i64 k] 3 (0, 0))) :
    Calls Tryd.prog 25 #[ruV r, .pointer (some ⟨Bs, 0, none⟩), .pointer (some ⟨Bk, 0, none⟩)] w fun e w' => e = .returned (.bool (decide (Fits r s k))) ∧ Below w.heap.size w w' := by
  obtain ⟨rs, rk, rp⟩ := r
  have HB := Lib.hid ((Below.refl _ w).alloc (Nat.le_refl _) (.cells #[.int .i64 rs, .int .i64 rk, .int .i64 rp] 42))
  have c1 : (w.alloc (.cells #[.int .i64 rs, .int .i64 rk, .int .i64 rp] 42)).cell? ⟨Bs, 0, none⟩ = some (.int .i64 s) := cell_of_row _ _ 0 _ _ _ (heap_old hs _)
  have c2 : (w.alloc (.cells #[.int .i64 rs, .int .i64 rk, .int .i64 rp] 42)).cell? ⟨Bk, 0, none⟩ = some (.int .i64 k) := cell_of_row _ _ 0 _ _ _ (heap_old hk _)
  clear hs hk
  by_cases s0 : rs = 0
  · have q1 : (rs == 0) = true := by simp [s0]
    by_cases k0 : rk = 0
    · have q3 : (rk == 0) = true := by simp [k0]
      rw [decide_eq_true (show Fits ⟨rs, rk, rp⟩ s k from ⟨.inl s0, .inl k0⟩)]
      clear s0 k0
      go_enter Tryd.func25, Tryd.ntmps25
      go_wp2
      go_ret
      exact ⟨rfl, HB.out⟩
    · have q3 : (rk == 0) = false := by simp [k0]
      have hd : decide (Fits ⟨rs, rk, rp⟩ s k) = (rk == k) := by
        rw [Bool.eq_iff_iff, decide_eq_true_iff, beq_iff_eq]
        constructor
        · intro h; rcases h.2 with h | h
          · exact absurd h k0
          · exact h
        · intro h; exact ⟨.inl s0, .inr h⟩
      rw [hd]
      clear s0 k0 hd
      go_enter Tryd.func25, Tryd.ntmps25
      go_wp2
      go_ret
      exact ⟨rfl, HB.out⟩
  · have q1 : (rs == 0) = false := by simp [s0]
    by_cases s1 : rs = s
    · have q2 : (rs == s) = true := by simp [s1]
      by_cases k0 : rk = 0
      · have q3 : (rk == 0) = true := by simp [k0]
        rw [decide_eq_true (show Fits ⟨rs, rk, rp⟩ s k from ⟨.inr s1, .inl k0⟩)]
        clear s0 k0 s1
        go_enter Tryd.func25, Tryd.ntmps25
        go_wp2
        go_ret
        exact ⟨rfl, HB.out⟩
      · have q3 : (rk == 0) = false := by simp [k0]
        have hd : decide (Fits ⟨rs, rk, rp⟩ s k) = (rk == k) := by
          rw [Bool.eq_iff_iff, decide_eq_true_iff, beq_iff_eq]
          constructor
          · intro h; rcases h.2 with h | h
            · exact absurd h k0
            · exact h
          · intro h; exact ⟨.inr s1, .inr h⟩
        rw [hd]
        clear s0 k0 hd s1
        go_enter Tryd.func25, Tryd.ntmps25
        go_wp2
        go_ret
        exact ⟨rfl, HB.out⟩
    · have q2 : (rs == s) = false := by simp [s1]
      rw [decide_eq_false (show ¬ Fits ⟨rs, rk, rp⟩ s k from fun h => by rcases h.1 with h | h; exact s0 h; exact s1 h)]
      clear s0 s1
      go_enter Tryd.func25, Tryd.ntmps25
      go_wp2
      go_ret
      exact ⟨rfl, HB.out⟩
/-- The index of the first rule that fits, or -1. -/
def IxIs (R : Nat → Ru) (rl : Nat) (s k i : Int) : Prop := (∃ n : Nat, n < rl ∧ i = n ∧ Fits (R n) s k ∧ ∀ j, j < n → ¬ Fits (R j) s k) ∨ (i = -1 ∧ ∀ j, j < rl → ¬ Fits (R j) s k)
def IxE (R : Nat → Ru) (rl : Nat) (s k : Int) (e : Ending) : Prop := ∃ i, IxIs R rl s k i ∧ e = .returned (.int .i64 i)
set_option maxRecDepth 100000 in
set_option maxHeartbeats 2000000 in
theorem index_any (ra : Option Addr) (rl rc : Nat) (R : Nat → Ru) (s k : Int) (Bs Bk n₀ : Nat) (w : World) (hn0 : n₀ ≤ w.heap.size) (hR : RusAt n₀ w ra rl R) (hrm : rl ≤ 1000) (hs : w.heap[Bs]? = some (.cells #[.int .i64 s] 3 (0, 0))) (hk : w.heap[Bk]? = some (.cells #[.int .i64 k] 3 (0, 0))) :
    Calls Tryd.prog 26 #[.slice ra rl rc, .func (.func 25) #[] #[.pointer (some ⟨Bs, 0, none⟩), .pointer (some ⟨Bk, 0, none⟩)]] w fun e w' => IxE R rl s k e ∧ Below w.heap.size w w' := by
  have HR := Lib.hid hR
  have HS := Lib.hid hs
  have HK := Lib.hid hk
  have hbs := (Array.getElem?_eq_some_iff.1 hs).1
  have hbk := (Array.getElem?_eq_some_iff.1 hk).1
  clear hR hs hk
  go_enter Tryd.func26, Tryd.ntmps26
  go_wp2_with fail
  go_loopw [8] (fun i wr => ∃ m : Nat, m ≤ rl ∧ i = .int .i64 m ∧ (∀ j, j < m → ¬ Fits (R j) s k) ∧ Below w.heap.size w wr) (fun i _ => (rl - intOf i).toNat)
  case atStart => exact ⟨0, Nat.zero_le _, rfl, fun j hj => absurd hj (Nat.not_lt_zero _), Below.refl _ _⟩
  case round =>
    obtain ⟨m, hm, rfl, hall, hb⟩ := hrel
    have HALL := Lib.hid hall
    have HB := Lib.hid hb
    clear hall hb
    by_cases hlt : m < rl
    · have hlti : (m : Int) < rl := by omega
      obtain ⟨b, o, rfl, hbl, c0, c1, c2⟩ := HR.out.next HB.out hn0 (Nat.le_refl _) m hlt
      obtain ⟨r, hr⟩ : ∃ r, R m = r := ⟨_, rfl⟩
      rw [hr] at c0 c1 c2
      have HRR := Lib.hid hr
      have HC := Lib.hid (holds_any r s k Bs Bk wr ((HB.out.block Bs hbs).trans HS.out) ((HB.out.block Bk hbk).trans HK.out))
      obtain ⟨rs, rk, rp⟩ := r
      simp only at c0 c1 c2
      clear hr
      by_cases hf : Fits ⟨rs, rk, rp⟩ s k
      · rw [decide_eq_true hf] at HC
        have HF := Lib.hid (show IxIs R rl s k (m : Int) from .inl ⟨m, hlt, rfl, by rw [HRR.out]; exact hf, HALL.out⟩)
        clear hf
        go_wp2_with fail
        refine HC.out.mono ?_
        rintro e w2 ⟨rfl, hB2⟩
        have HB2 := Lib.hid (HB.out.trans (hB2.mono HB.out.size))
        clear hB2 HC
        go_wp2
        go_ret
        exact ⟨⟨_, HF.out, rfl⟩, HB2.out⟩
      · rw [decide_eq_false hf] at HC
        have HF := Lib.hid (show ¬ Fits (R m) s k by rw [HRR.out]; exact hf)
        clear hf
        go_wp2_with fail
        refine HC.out.mono ?_
        rintro e w2 ⟨rfl, hB2⟩
        have HB2 := Lib.hid (HB.out.trans (hB2.mono HB.out.size))
        clear hB2 HC
        go_wp2
        go_roundw
        case rel => exact ⟨m + 1, by omega, by go_num, fun j hj => by rcases Nat.lt_succ_iff_lt_or_eq.1 hj with q | q; exact HALL.out j q; rw [q]; exact HF.out, HB2.out⟩
        case measure => first | (simp [intOf]; done) | (simp [intOf]; omega)
    · have hme : m = rl := by omega
      subst hme
      have HF := Lib.hid (show IxIs R m s k (-1) from .inr ⟨rfl, HALL.out⟩)
      go_wp2
      go_ret
      exact ⟨⟨_, HF.out, rfl⟩, HB.out⟩
set_option maxRecDepth 100000 in
set_option maxHeartbeats 4000000 in
theorem planT_no (pa : Option Addr) (pl pc : Nat) (ra : Option Addr) (rl rc : Nat) (P : Nat → Pl) (R : Nat → Ru) (s kd : Int) (hno : ¬ PlanMay P pl R rl s kd) (w : World) (hP : PlsAt w.heap.size w pa pl P) (hR : RusAt w.heap.size w ra rl R) (hlm : pl ≤ maxLen) (hrm : rl ≤ maxLen) :
    Calls Tryd.prog 13 #[tabV pa pl pc ra rl rc, .int .i64 s, .int .i64 kd] w fun e w' => e = .returned (.tuple #[.int .i64 0, .bool false]) ∧ Below w.heap.size w w' := by
  have hb0 := (((Below.refl _ w).alloc (Nat.le_refl _) (.cells #[.slice pa pl pc, .slice ra rl rc] 45)).alloc (by simp) (.cells #[.int .i64 s] 3)).alloc (by simp; omega) (.cells #[.int .i64 kd] 3)
  have hz1 : (((w.alloc (.cells #[.slice pa pl pc, .slice ra rl rc] 45)).alloc (.cells #[.int .i64 s] 3)).alloc (.cells #[.int .i64 kd] 3)).heap[w.heap.size + 1]? = some (.cells #[.int .i64 s] 3) := heap_old (by have := heap_alloc_new (w.alloc (.cells #[.slice pa pl pc, .slice ra rl rc] 45)) (.cells #[.int .i64 s] 3); rw [World.size_alloc] at this; exact this) _
  have hz2 : (((w.alloc (.cells #[.slice pa pl pc, .slice ra rl rc] 45)).alloc (.cells #[.int .i64 s] 3)).alloc (.cells #[.int .i64 kd] 3)).heap[w.heap.size + 1 + 1]? = some (.cells #[.int .i64 kd] 3) := by have := heap_alloc_new ((w.alloc (.cells #[.slice pa pl pc, .slice ra rl rc] 45)).alloc (.cells #[.int .i64 s] 3)) (.cells #[.int .i64 kd] 3); rw [World.size_alloc, World.size_alloc] at this; exact this
  have hsz : (((w.alloc (.cells #[.slice pa pl pc, .slice ra rl rc] 45)).alloc (.cells #[.int .i64 s] 3)).alloc (.cells #[.int .i64 kd] 3)).heap.size = w.heap.size + 3 := by simp [World.size_alloc]
  have HC := Lib.hid (checkT_any pa pl pc ra rl rc P R _ ((hP.next hb0 (Nat.le_refl _) (Nat.le_refl _)).mono hb0.size) ((hR.next hb0 (Nat.le_refl _) (Nat.le_refl _)).mono hb0.size) hlm hrm)
  have HB0 := Lib.hid hb0
  have HZ1 := Lib.hid hz1
  have HZ2 := Lib.hid hz2
  have HSZ := Lib.hid hsz
  clear hb0 hz1 hz2 hsz hP hR hlm hrm
  by_cases ht : TabIs P pl R rl
  · rw [tErr_yes ht] at HC
    by_cases h1 : 0 ≤ s ∧ s ≤ 99
    · have HF1 := Lib.hid (fun W : World => isFrom_yes h1 W)
      have HF2 := Lib.hid (fun W : World => isFrom_no (n := kd) (a := 1) (b := 4) (fun h => hno ⟨ht, h1, h⟩) W)
      clear ht h1 hno
      go_enter Tryd.func13, Tryd.ntmps13
      go_wp2_with fail
      refine HC.out.mono ?_
      rintro e w1 ⟨rfl, hB1⟩
      have z1 : w1.cell? ⟨w.heap.size + 1, 0, none⟩ = some (.int .i64 s) := cell_of_row _ _ 0 _ _ _ ((hB1.block (w.heap.size + 1) (by rw [HSZ.out]; omega)).trans HZ1.out)
      have z2 : w1.cell? ⟨w.heap.size + 1 + 1, 0, none⟩ = some (.int .i64 kd) := cell_of_row _ _ 0 _ _ _ ((hB1.block (w.heap.size + 1 + 1) (by rw [HSZ.out]; omega)).trans HZ2.out)
      have HB1 := Lib.hid (HB0.out.trans (hB1.mono HB0.out.size))
      clear hB1
      go_wp2_with fail
      refine (HF1.out _).mono ?_
      rintro e w' ⟨rfl, rfl⟩
      go_wp2_with fail
      refine (HF2.out _).mono ?_
      rintro e w' ⟨rfl, rfl⟩
      go_wp2
      go_ret2
      exact ⟨rfl, HB1.out⟩
    · have HF1 := Lib.hid (fun W : World => isFrom_no h1 W)
      clear ht h1 hno
      go_enter Tryd.func13, Tryd.ntmps13
      go_wp2_with fail
      refine HC.out.mono ?_
      rintro e w1 ⟨rfl, hB1⟩
      have z1 : w1.cell? ⟨w.heap.size + 1, 0, none⟩ = some (.int .i64 s) := cell_of_row _ _ 0 _ _ _ ((hB1.block (w.heap.size + 1) (by rw [HSZ.out]; omega)).trans HZ1.out)
      have HB1 := Lib.hid (HB0.out.trans (hB1.mono HB0.out.size))
      clear hB1
      go_wp2_with fail
      refine (HF1.out _).mono ?_
      rintro e w' ⟨rfl, rfl⟩
      go_wp2
      go_ret2
      exact ⟨rfl, HB1.out⟩
  · rw [tErr_no ht] at HC
    clear ht hno
    go_enter Tryd.func13, Tryd.ntmps13
    go_wp2_with fail
    refine HC.out.mono ?_
    rintro e w1 ⟨rfl, hB1⟩
    have HB1 := Lib.hid (HB0.out.trans (hB1.mono HB0.out.size))
    clear hB1
    go_wp2
    go_ret2
    exact ⟨rfl, HB1.out⟩
set_option maxRecDepth 100000 in
set_option maxHeartbeats 4000000 in
theorem planT_yes (pa : Option Addr) (pl pc : Nat) (ra : Option Addr) (rl rc : Nat) (P : Nat → Pl) (R : Nat → Ru) (s kd : Int) (hyes : PlanMay P pl R rl s kd) (w : World) (hP : PlsAt w.heap.size w pa pl P) (hR : RusAt w.heap.size w ra rl R) (hlm : pl ≤ maxLen) (hrm : rl ≤ maxLen) :
    Calls Tryd.prog 13 #[tabV pa pl pc ra rl rc, .int .i64 s, .int .i64 kd] w fun e w' => PlanE R rl s kd e ∧ Below w.heap.size w w' := by
  have hb0 := (((Below.refl _ w).alloc (Nat.le_refl _) (.cells #[.slice pa pl pc, .slice ra rl rc] 45)).alloc (by simp) (.cells #[.int .i64 s] 3)).alloc (by simp; omega) (.cells #[.int .i64 kd] 3)
  have hz0 : (((w.alloc (.cells #[.slice pa pl pc, .slice ra rl rc] 45)).alloc (.cells #[.int .i64 s] 3)).alloc (.cells #[.int .i64 kd] 3)).heap[w.heap.size]? = some (.cells #[.slice pa pl pc, .slice ra rl rc] 45) := heap_old (heap_old (heap_alloc_new w _) _) _
  have hz1 : (((w.alloc (.cells #[.slice pa pl pc, .slice ra rl rc] 45)).alloc (.cells #[.int .i64 s] 3)).alloc (.cells #[.int .i64 kd] 3)).heap[w.heap.size + 1]? = some (.cells #[.int .i64 s] 3) := heap_old (by have := heap_alloc_new (w.alloc (.cells #[.slice pa pl pc, .slice ra rl rc] 45)) (.cells #[.int .i64 s] 3); rw [World.size_alloc] at this; exact this) _
  have hz2 : (((w.alloc (.cells #[.slice pa pl pc, .slice ra rl rc] 45)).alloc (.cells #[.int .i64 s] 3)).alloc (.cells #[.int .i64 kd] 3)).heap[w.heap.size + 1 + 1]? = some (.cells #[.int .i64 kd] 3) := by have := heap_alloc_new ((w.alloc (.cells #[.slice pa pl pc, .slice ra rl rc] 45)).alloc (.cells #[.int .i64 s] 3)) (.cells #[.int .i64 kd] 3); rw [World.size_alloc, World.size_alloc] at this; exact this
  have hsz : (((w.alloc (.cells #[.slice pa pl pc, .slice ra rl rc] 45)).alloc (.cells #[.int .i64 s] 3)).alloc (.cells #[.int .i64 kd] 3)).heap.size = w.heap.size + 3 := by simp [World.size_alloc]
  have hck := checkT_any pa pl pc ra rl rc P R _ ((hP.next hb0 (Nat.le_refl _) (Nat.le_refl _)).mono hb0.size) ((hR.next hb0 (Nat.le_refl _) (Nat.le_refl _)).mono hb0.size) hlm hrm
  rw [tErr_yes hyes.1] at hck
  have HC := Lib.hid hck
  have HF1 := Lib.hid (fun W : World => isFrom_yes hyes.2.1 W)
  have HF2 := Lib.hid (fun W : World => isFrom_yes hyes.2.2 W)
  have hrl := hyes.1.2.2.1
  have HR := Lib.hid hR
  have HB0 := Lib.hid hb0
  have HZ0 := Lib.hid hz0
  have HZ1 := Lib.hid hz1
  have HZ2 := Lib.hid hz2
  have HSZ := Lib.hid hsz
  clear hb0 hz0 hz1 hz2 hsz hP hR hlm hrm hck hyes
  go_enter Tryd.func13, Tryd.ntmps13
  go_wp2_with fail
  refine HC.out.mono ?_
  rintro e w1 ⟨rfl, hB1⟩
  have hr0 := (hB1.block w.heap.size (by rw [HSZ.out]; omega)).trans HZ0.out
  have hr1 := (hB1.block (w.heap.size + 1) (by rw [HSZ.out]; omega)).trans HZ1.out
  have hr2 := (hB1.block (w.heap.size + 1 + 1) (by rw [HSZ.out]; omega)).trans HZ2.out
  have z0 : w1.cell? ⟨w.heap.size, 1, none⟩ = some (.slice ra rl rc) := cell_of_row _ _ 1 _ _ _ hr0
  have z1 : w1.cell? ⟨w.heap.size + 1, 0, none⟩ = some (.int .i64 s) := cell_of_row _ _ 0 _ _ _ hr1
  have z2 : w1.cell? ⟨w.heap.size + 1 + 1, 0, none⟩ = some (.int .i64 kd) := cell_of_row _ _ 0 _ _ _ hr2
  have hb1 := HB0.out.trans (hB1.mono HB0.out.size)
  have HI := Lib.hid (index_any ra rl rc R s kd (w.heap.size + 1) (w.heap.size + 1 + 1) w.heap.size w1 hb1.size (HR.out.next hb1 (Nat.le_refl _) (Nat.le_refl _)) (by omega) hr1 hr2)
  have HB1 := Lib.hid hb1
  have HR0 := Lib.hid hr0
  have hl0 := (Array.getElem?_eq_some_iff.1 hr0).1
  clear hB1 hr0 hr1 hr2 hb1
  go_wp2_with fail
  refine (HF1.out _).mono ?_
  rintro e w' ⟨rfl, rfl⟩
  go_wp2_with fail
  refine (HF2.out _).mono ?_
  rintro e w' ⟨rfl, rfl⟩
  go_wp2_with fail
  refine HI.out.mono ?_
  rintro e w2 ⟨⟨i, hi, rfl⟩, hB2⟩
  have hr02 := (hB2.block w.heap.size hl0).trans HR0.out
  have y0 : w2.cell? ⟨w.heap.size, 1, none⟩ = some (.slice ra rl rc) := cell_of_row _ _ 1 _ _ _ hr02
  have hb2 := HB1.out.trans (hB2.mono HB1.out.size)
  have HB2 := Lib.hid hb2
  rcases hi with ⟨n, hn, rfl, hf, hall⟩ | ⟨rfl, hall⟩
  · obtain ⟨b, o, rfl, hbl, c0, c1, c2⟩ := HR.out.next hb2 (Nat.le_refl _) (Nat.le_refl _) n hn
    have HPL := Lib.hid (show PlanOf R rl s kd (R n).p from .inl ⟨n, hn, hf, rfl, hall⟩)
    have g0 : ¬ ((n : Int) < 0) := by omega
    clear z0 z1 z2 hB2 hb2 hr02 hf hall HI
    have hni : (n : Int) < rl := by omega
    go_wp2
    go_ret2
    exact ⟨⟨_, HPL.out, rfl⟩, HB2.out⟩
  · have HPL := Lib.hid (show PlanOf R rl s kd 0 from .inr ⟨rfl, hall⟩)
    clear z0 z1 z2 hB2 hb2 hr02 hall HI
    go_wp2
    go_ret2
    exact ⟨⟨_, HPL.out, rfl⟩, HB2.out⟩
end Go.Proofs.YtmbimnphdhmapaaDoor
