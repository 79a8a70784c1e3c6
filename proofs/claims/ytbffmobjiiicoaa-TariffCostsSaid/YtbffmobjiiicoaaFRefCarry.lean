/- The document's Carry by 1000000. -/
import Derived.Test.YtbffmobjiiicoaaFThree
import Derived.Test.YtbffmobjiiicoaaFCarry
import Derived.Test.YtbffmobjiiicoaaJF2
set_option linter.unusedVariables false
set_option linter.unusedSimpArgs false
namespace Go.Proofs.Ytbffmobjiiicoaa
open Go.RowKit Go.Proofs.Ytbffmobjiiicoaa.F1
theorem sgn_nat (n : Nat) : sgn (n : Int) = nb false n := by rw [sgn_pos (Int.natCast_nonneg _), Int.natAbs_natCast]
theorem times_nat (a b : Nat) (ha : a ≤ 18446744073709551615) (hb : b ≤ 18446744073709551615) (w : World) :
    Calls Try.prog 22 #[.agg (nb false a), .agg (nb false b)] w fun e w' => e = .returned (.agg (nb false (a * b))) ∧ Below w.heap.size w w' := by
  have k := times_any (a : Int) (b : Int) (by omega) (by omega) w
  rw [sgn_nat, sgn_nat, ← Int.natCast_mul, sgn_nat] at k
  exact k
set_option maxRecDepth 20000 in
set_option maxHeartbeats 4000000 in
theorem rcarry_walk (n num r P X q m : Nat) (qv : Int) (ok : Bool) (hn : n ≤ 18446744073709551615) (hm : num ≤ 18446744073709551615) (hr : r < 1000000) (hP : n * num = P) (hX : P + r = X) (hXb : X < 2 ^ 200) (hq : X / 1000000 = q) (hmm : X % 1000000 = m)
    (HU : ∀ W : World, Calls Try.prog 25 #[.agg (nb false q)] W fun e w' => e = .returned (.tuple #[.int .u64 qv, .bool ok]) ∧ Below W.heap.size W w')
    (v1 v2 : Int) (v3 : Int) (hv : (ok = true ∧ v1 = qv ∧ v2 = (m : Int) ∧ v3 = 0) ∨ (ok = false ∧ v1 = 0 ∧ v2 = 0 ∧ v3 = 10)) (w : World) :
    Calls Try.prog 16 #[.int .u64 n, .int .u64 num, .int .u64 1000000, .int .u64 r] w fun e w' => e = .returned (.tuple #[.int .u64 v1, .int .u64 v2, .int .i64 v3]) ∧ Below w.heap.size w w' := by
  have hz := (zero_of_info info42).1
  have C1 := Lib.hid (fun W => of_any n W hn)
  have C2 := Lib.hid (fun W => of_any num W hm)
  have C3 := Lib.hid (fun W => hP ▸ times_nat n num hn hm W)
  have C4 := Lib.hid (fun W => of_any r W (by omega))
  have C5 := Lib.hid (fun W => hX ▸ plus_any false false P r (by omega) W)
  have C6 := Lib.hid (fun W => of_any 1000000 W (by omega))
  have C7 := Lib.hid (fun W => hq ▸ hmm ▸ parts_core false false X 1000000 hXb (by omega) (by omega) W)
  have C8 := Lib.hid HU
  have C9 := Lib.hid (fun W => uint_in false m (by omega) W)
  have c0 : decide ((1000000 : Int) ≤ (r : Int)) = false := by simp; omega
  have HV := Lib.hid hv
  clear hn hm hr hP hX hXb hq hmm HU hv
  go_enter Try.func16, Try.ntmps16
  go_wp2_with fail
  refine (C1.out _).mono ?_
  rintro e w1 ⟨rfl, hB1⟩
  go_wp2_with fail
  refine (C2.out _).mono ?_
  rintro e w2 ⟨rfl, hB2⟩
  go_wp2_with fail
  refine (C3.out _).mono ?_
  rintro e w3 ⟨rfl, hB3⟩
  go_wp2_with fail
  refine (C4.out _).mono ?_
  rintro e w4 ⟨rfl, hB4⟩
  go_wp2_with fail
  refine (C5.out _).mono ?_
  rintro e w5 ⟨rfl, hB5⟩
  obtain ⟨w6, ew, x6, keep, hB6⟩ := fresh w5 false (bitf X)
  have KX := Lib.hid (At.new w5 zeroNum)
  have HW := Lib.hid ew
  have X6 := Lib.hid x6
  have HB := Lib.hid (((((hB1.trans (hB2.mono hB1.size)).trans (hB3.mono (Nat.le_trans hB1.size hB2.size))).trans (hB4.mono (Nat.le_trans hB1.size (Nat.le_trans hB2.size hB3.size)))).trans (hB5.mono (Nat.le_trans hB1.size (Nat.le_trans hB2.size (Nat.le_trans hB3.size hB4.size))))).trans (hB6.mono (Nat.le_trans hB1.size (Nat.le_trans hB2.size (Nat.le_trans hB3.size (Nat.le_trans hB4.size hB5.size))))))
  clear hB1 hB2 hB3 hB4 hB5 hB6 ew x6 keep
  go_wp2_with (refine store_num (f' := fun _ => 0) KX.out rfl rfl rfl rfl ?_; rw [HW.out])
  generalize w5.heap.size = bx at *
  clear KX HW
  refine cutR (fun a0 e a' W => e = .normal ∧ ∃ (g7 g8 : Nat), a' = ((((((((a0.put (some 32) (.agg (nb false X))).put (some 33) (.int .u64 1000000)).put (some 34) (.agg (nb false 1000000))).put (some 35) (.tuple #[.agg (nb false q), .agg (nb false m)])).put (some 31) (.tuple #[.agg (nb false q), .agg (nb false m)])).put (some 36) (.agg (nb false q))).put (some 37) (.agg (nb false m))).put (some 12) (.pointer (some ⟨g7, 0, none⟩))).put (some 13) (.pointer (some ⟨g8, 0, none⟩)) ∧ RC w6.heap.size w6 W (some (g7, q)) (some (g8, m))) ?_ ?_
  ·
    refine regionL (fun W => Below w6.heap.size w6 W) 10 (by kernel_rfl) ?_
    have q1 : Below w6.heap.size w6 w6.drew := ⟨rfl, rfl, rfl, Nat.le_refl _, fun _ _ => rfl⟩
    refine takeL (i := 0) (oi := { dst := some 32, op := Go.Op.load 66 (Go.Operand.tmp 11), type := 66, pos := "ref.go:230", after := #[], guard := none }) (v := .agg (nb false X)) [9, 10] rfl (by kernel_rfl) (by kernel_rfl) (by kernel_rfl) (by kernel_rfl) (fun _ _ _ h => calm_panic h) rfl ?_ q1 ?_
    · exact fun W hW => run_load_num (X6.out.below X6.out.lt hW) rfl rfl
    simp only [Act.put, List.setIfInBounds_toArray, List.set_cons_zero, List.set_cons_succ]
    refine takeL (i := 1) (oi := { dst := some 33, op := Go.Op.move (Go.Operand.tmp 2), type := 52, pos := "ref.go:230", after := #[], guard := none }) (v := .int .u64 1000000) [9, 10] rfl (by kernel_rfl) (by kernel_rfl) (by kernel_rfl) (by kernel_rfl) (fun _ _ _ h => calm_panic h) rfl ?_ q1 ?_
    · intro W hW; go_simp
    simp only [Act.put, List.setIfInBounds_toArray, List.set_cons_zero, List.set_cons_succ]
    have R0 : RC w6.heap.size w6 w6.drew none none := ⟨q1, Nat.le_refl _, fun g q e => (by cases e), fun g q e => (by cases e), fun g q g' q' e => (by cases e)⟩
    refine threeL (i := 2) (j := 7) (k := 8) (o := { dst := some 34, op := Go.Op.call { callee := Go.Callee.value (Go.Operand.func 23), args := #[Go.Operand.tmp 33], argTypes := #[52] }, type := 66, pos := "ref.go:230", after := #[{ on := 1, ground := Go.Ground.data }], guard := none }) (o' := { dst := some 12, op := Go.Op.alloc 66, type := 0, pos := "ref.go:230", after := #[], guard := none }) (o'' := { dst := some 13, op := Go.Op.alloc 66, type := 0, pos := "ref.go:230", after := #[], guard := none }) rfl rfl rfl (by kernel_rfl) rfl rfl rfl ?_ ?_ ?_
    ·
      refine R0.docall (f := 23) (args := #[.int .u64 1000000]) (v := .agg (nb false 1000000)) (by go_simp) (C6.out _) ?_
      intro X0 R0
      refine ⟨fun _ => R0.below, ?_⟩
      simp only [Act.put, List.setIfInBounds_toArray, List.set_cons_zero, List.set_cons_succ]
      refine threeL (i := 3) (j := 7) (k := 8) (o := { dst := some 35, op := Go.Op.call { callee := Go.Callee.value (Go.Operand.func 24), args := #[Go.Operand.tmp 32, Go.Operand.tmp 34], argTypes := #[66, 66] }, type := 69, pos := "ref.go:230", after := #[{ on := 0, ground := Go.Ground.data }, { on := 2, ground := Go.Ground.data }, { on := 2, ground := Go.Ground.chain }], guard := none }) (o' := { dst := some 12, op := Go.Op.alloc 66, type := 0, pos := "ref.go:230", after := #[], guard := none }) (o'' := { dst := some 13, op := Go.Op.alloc 66, type := 0, pos := "ref.go:230", after := #[], guard := none }) rfl rfl rfl (by kernel_rfl) rfl rfl rfl ?_ ?_ ?_
      ·
        refine R0.docall (f := 24) (args := #[.agg (nb false X), .agg (nb false 1000000)]) (v := .tuple #[.agg (nb false q), .agg (nb false m)]) (by go_simp) (C7.out _) ?_
        intro X1 R1
        refine ⟨fun _ => R1.below, ?_⟩
        simp only [Act.put, List.setIfInBounds_toArray, List.set_cons_zero, List.set_cons_succ]
        refine takeL (i := 4) (oi := { dst := some 31, op := Go.Op.move (Go.Operand.tmp 35), type := 69, pos := "ref.go:230", after := #[{ on := 3, ground := Go.Ground.data }], guard := none }) (v := .tuple #[.agg (nb false q), .agg (nb false m)]) [9, 10] rfl (by kernel_rfl) (by kernel_rfl) (by kernel_rfl) (by kernel_rfl) (fun _ _ _ h => calm_panic h) rfl ?_ R1.below ?_
        · intro W hW; go_simp
        simp only [Act.put, List.setIfInBounds_toArray, List.set_cons_zero, List.set_cons_succ]
        refine takeL (i := 5) (oi := { dst := some 36, op := Go.Op.extract (Go.Operand.tmp 31) 0, type := 66, pos := "ref.go:230", after := #[{ on := 4, ground := Go.Ground.data }], guard := none }) (v := .agg (nb false q)) [9, 10] rfl (by kernel_rfl) (by kernel_rfl) (by kernel_rfl) (by kernel_rfl) (fun _ _ _ h => calm_panic h) rfl ?_ R1.below ?_
        · intro W hW; go_simp
        simp only [Act.put, List.setIfInBounds_toArray, List.set_cons_zero, List.set_cons_succ]
        refine takeL (i := 6) (oi := { dst := some 37, op := Go.Op.extract (Go.Operand.tmp 31) 1, type := 66, pos := "ref.go:230", after := #[{ on := 4, ground := Go.Ground.data }, { on := 9, ground := Go.Ground.gcOnly Go.Departure.lateStores }], guard := none }) (v := .agg (nb false m)) [10] rfl (by kernel_rfl) (by kernel_rfl) (by kernel_rfl) (by kernel_rfl) (fun _ _ _ h => calm_panic h) rfl ?_ R1.below ?_
        · intro W hW; go_simp
        simp only [Act.put, List.setIfInBounds_toArray, List.set_cons_zero, List.set_cons_succ]
        refine twoL (i := 7) (j := 8) (o := { dst := some 12, op := Go.Op.alloc 66, type := 0, pos := "ref.go:230", after := #[], guard := none }) (o' := { dst := some 13, op := Go.Op.alloc 66, type := 0, pos := "ref.go:230", after := #[], guard := none }) rfl rfl (by kernel_rfl) rfl rfl ?_ ?_
        ·
          refine R1.doseven (by go_simp) ?_
          intro g2 X2 R2
          refine ⟨fun _ => R2.below, ?_⟩
          simp only [Act.put, List.setIfInBounds_toArray, List.set_cons_zero, List.set_cons_succ]
          refine oneL (i := 8) (o := { dst := some 13, op := Go.Op.alloc 66, type := 0, pos := "ref.go:230", after := #[], guard := none }) rfl (by kernel_rfl) rfl ?_
          ·
            refine R2.doeight (by go_simp) ?_
            intro g3 X3 R3
            refine ⟨fun _ => R3.below, ?_⟩
            simp only [Act.put, List.setIfInBounds_toArray, List.set_cons_zero, List.set_cons_succ]
            refine oneL (i := 9) (o := { dst := none, op := Go.Op.store 66 (Go.Operand.tmp 12) (Go.Operand.tmp 36), type := 0, pos := "ref.go:230", after := #[{ on := 7, ground := Go.Ground.data }, { on := 5, ground := Go.Ground.data }, { on := 3, ground := Go.Ground.chain }, { on := 0, ground := Go.Ground.phase }, { on := 1, ground := Go.Ground.phase }, { on := 2, ground := Go.Ground.phase }, { on := 3, ground := Go.Ground.phase }, { on := 4, ground := Go.Ground.phase }, { on := 5, ground := Go.Ground.phase }, { on := 6, ground := Go.Ground.textOnly Go.Departure.lateStores }, { on := 7, ground := Go.Ground.phase }, { on := 8, ground := Go.Ground.phase }], guard := none }) rfl (by kernel_rfl) rfl ?_
            refine R3.dost7 rfl rfl rfl ?_
            intro X4 R4
            refine ⟨fun _ => R4.below, ?_⟩
            simp only [Act.put, List.setIfInBounds_toArray, List.set_cons_zero, List.set_cons_succ]
            refine oneL (i := 10) (o := { dst := none, op := Go.Op.store 66 (Go.Operand.tmp 13) (Go.Operand.tmp 37), type := 0, pos := "ref.go:230", after := #[{ on := 8, ground := Go.Ground.data }, { on := 6, ground := Go.Ground.data }, { on := 9, ground := Go.Ground.chain }, { on := 0, ground := Go.Ground.phase }, { on := 1, ground := Go.Ground.phase }, { on := 2, ground := Go.Ground.phase }, { on := 3, ground := Go.Ground.phase }, { on := 4, ground := Go.Ground.phase }, { on := 5, ground := Go.Ground.phase }, { on := 6, ground := Go.Ground.phase }, { on := 7, ground := Go.Ground.phase }, { on := 8, ground := Go.Ground.phase }, { on := 9, ground := Go.Ground.phase }], guard := none }) rfl (by kernel_rfl) rfl ?_
            refine R4.dost8 rfl rfl rfl ?_
            intro X5 R5
            refine ⟨fun _ => R5.below, ?_⟩
            simp only [Act.put, List.setIfInBounds_toArray, List.set_cons_zero, List.set_cons_succ]
            refine doneL (by kernel_rfl) (Calm.normal ?_) _
            exact ⟨rfl, _, _, rfl, R5⟩
        ·
          refine R1.doeight (by go_simp) ?_
          intro g6 X6 R6
          refine ⟨fun _ => R6.below, ?_⟩
          simp only [Act.put, List.setIfInBounds_toArray, List.set_cons_zero, List.set_cons_succ]
          refine oneL (i := 7) (o := { dst := some 12, op := Go.Op.alloc 66, type := 0, pos := "ref.go:230", after := #[], guard := none }) rfl (by kernel_rfl) rfl ?_
          ·
            refine R6.doseven (by go_simp) ?_
            intro g7 X7 R7
            refine ⟨fun _ => R7.below, ?_⟩
            simp only [Act.put, List.setIfInBounds_toArray, List.set_cons_zero, List.set_cons_succ]
            refine oneL (i := 9) (o := { dst := none, op := Go.Op.store 66 (Go.Operand.tmp 12) (Go.Operand.tmp 36), type := 0, pos := "ref.go:230", after := #[{ on := 7, ground := Go.Ground.data }, { on := 5, ground := Go.Ground.data }, { on := 3, ground := Go.Ground.chain }, { on := 0, ground := Go.Ground.phase }, { on := 1, ground := Go.Ground.phase }, { on := 2, ground := Go.Ground.phase }, { on := 3, ground := Go.Ground.phase }, { on := 4, ground := Go.Ground.phase }, { on := 5, ground := Go.Ground.phase }, { on := 6, ground := Go.Ground.textOnly Go.Departure.lateStores }, { on := 7, ground := Go.Ground.phase }, { on := 8, ground := Go.Ground.phase }], guard := none }) rfl (by kernel_rfl) rfl ?_
            refine R7.dost7 rfl rfl rfl ?_
            intro X8 R8
            refine ⟨fun _ => R8.below, ?_⟩
            simp only [Act.put, List.setIfInBounds_toArray, List.set_cons_zero, List.set_cons_succ]
            refine oneL (i := 10) (o := { dst := none, op := Go.Op.store 66 (Go.Operand.tmp 13) (Go.Operand.tmp 37), type := 0, pos := "ref.go:230", after := #[{ on := 8, ground := Go.Ground.data }, { on := 6, ground := Go.Ground.data }, { on := 9, ground := Go.Ground.chain }, { on := 0, ground := Go.Ground.phase }, { on := 1, ground := Go.Ground.phase }, { on := 2, ground := Go.Ground.phase }, { on := 3, ground := Go.Ground.phase }, { on := 4, ground := Go.Ground.phase }, { on := 5, ground := Go.Ground.phase }, { on := 6, ground := Go.Ground.phase }, { on := 7, ground := Go.Ground.phase }, { on := 8, ground := Go.Ground.phase }, { on := 9, ground := Go.Ground.phase }], guard := none }) rfl (by kernel_rfl) rfl ?_
            refine R8.dost8 rfl rfl rfl ?_
            intro X9 R9
            refine ⟨fun _ => R9.below, ?_⟩
            simp only [Act.put, List.setIfInBounds_toArray, List.set_cons_zero, List.set_cons_succ]
            refine doneL (by kernel_rfl) (Calm.normal ?_) _
            exact ⟨rfl, _, _, rfl, R9⟩
      ·
        refine R0.doseven (by go_simp) ?_
        intro g10 X10 R10
        refine ⟨fun _ => R10.below, ?_⟩
        simp only [Act.put, List.setIfInBounds_toArray, List.set_cons_zero, List.set_cons_succ]
        refine twoL (i := 3) (j := 8) (o := { dst := some 35, op := Go.Op.call { callee := Go.Callee.value (Go.Operand.func 24), args := #[Go.Operand.tmp 32, Go.Operand.tmp 34], argTypes := #[66, 66] }, type := 69, pos := "ref.go:230", after := #[{ on := 0, ground := Go.Ground.data }, { on := 2, ground := Go.Ground.data }, { on := 2, ground := Go.Ground.chain }], guard := none }) (o' := { dst := some 13, op := Go.Op.alloc 66, type := 0, pos := "ref.go:230", after := #[], guard := none }) rfl rfl (by kernel_rfl) rfl rfl ?_ ?_
        ·
          refine R10.docall (f := 24) (args := #[.agg (nb false X), .agg (nb false 1000000)]) (v := .tuple #[.agg (nb false q), .agg (nb false m)]) (by go_simp) (C7.out _) ?_
          intro X11 R11
          refine ⟨fun _ => R11.below, ?_⟩
          simp only [Act.put, List.setIfInBounds_toArray, List.set_cons_zero, List.set_cons_succ]
          refine takeL (i := 4) (oi := { dst := some 31, op := Go.Op.move (Go.Operand.tmp 35), type := 69, pos := "ref.go:230", after := #[{ on := 3, ground := Go.Ground.data }], guard := none }) (v := .tuple #[.agg (nb false q), .agg (nb false m)]) [9, 10] rfl (by kernel_rfl) (by kernel_rfl) (by kernel_rfl) (by kernel_rfl) (fun _ _ _ h => calm_panic h) rfl ?_ R11.below ?_
          · intro W hW; go_simp
          simp only [Act.put, List.setIfInBounds_toArray, List.set_cons_zero, List.set_cons_succ]
          refine takeL (i := 5) (oi := { dst := some 36, op := Go.Op.extract (Go.Operand.tmp 31) 0, type := 66, pos := "ref.go:230", after := #[{ on := 4, ground := Go.Ground.data }], guard := none }) (v := .agg (nb false q)) [9, 10] rfl (by kernel_rfl) (by kernel_rfl) (by kernel_rfl) (by kernel_rfl) (fun _ _ _ h => calm_panic h) rfl ?_ R11.below ?_
          · intro W hW; go_simp
          simp only [Act.put, List.setIfInBounds_toArray, List.set_cons_zero, List.set_cons_succ]
          refine takeL (i := 6) (oi := { dst := some 37, op := Go.Op.extract (Go.Operand.tmp 31) 1, type := 66, pos := "ref.go:230", after := #[{ on := 4, ground := Go.Ground.data }, { on := 9, ground := Go.Ground.gcOnly Go.Departure.lateStores }], guard := none }) (v := .agg (nb false m)) [10] rfl (by kernel_rfl) (by kernel_rfl) (by kernel_rfl) (by kernel_rfl) (fun _ _ _ h => calm_panic h) rfl ?_ R11.below ?_
          · intro W hW; go_simp
          simp only [Act.put, List.setIfInBounds_toArray, List.set_cons_zero, List.set_cons_succ]
          refine oneL (i := 8) (o := { dst := some 13, op := Go.Op.alloc 66, type := 0, pos := "ref.go:230", after := #[], guard := none }) rfl (by kernel_rfl) rfl ?_
          ·
            refine R11.doeight (by go_simp) ?_
            intro g12 X12 R12
            refine ⟨fun _ => R12.below, ?_⟩
            simp only [Act.put, List.setIfInBounds_toArray, List.set_cons_zero, List.set_cons_succ]
            refine oneL (i := 9) (o := { dst := none, op := Go.Op.store 66 (Go.Operand.tmp 12) (Go.Operand.tmp 36), type := 0, pos := "ref.go:230", after := #[{ on := 7, ground := Go.Ground.data }, { on := 5, ground := Go.Ground.data }, { on := 3, ground := Go.Ground.chain }, { on := 0, ground := Go.Ground.phase }, { on := 1, ground := Go.Ground.phase }, { on := 2, ground := Go.Ground.phase }, { on := 3, ground := Go.Ground.phase }, { on := 4, ground := Go.Ground.phase }, { on := 5, ground := Go.Ground.phase }, { on := 6, ground := Go.Ground.textOnly Go.Departure.lateStores }, { on := 7, ground := Go.Ground.phase }, { on := 8, ground := Go.Ground.phase }], guard := none }) rfl (by kernel_rfl) rfl ?_
            refine R12.dost7 rfl rfl rfl ?_
            intro X13 R13
            refine ⟨fun _ => R13.below, ?_⟩
            simp only [Act.put, List.setIfInBounds_toArray, List.set_cons_zero, List.set_cons_succ]
            refine oneL (i := 10) (o := { dst := none, op := Go.Op.store 66 (Go.Operand.tmp 13) (Go.Operand.tmp 37), type := 0, pos := "ref.go:230", after := #[{ on := 8, ground := Go.Ground.data }, { on := 6, ground := Go.Ground.data }, { on := 9, ground := Go.Ground.chain }, { on := 0, ground := Go.Ground.phase }, { on := 1, ground := Go.Ground.phase }, { on := 2, ground := Go.Ground.phase }, { on := 3, ground := Go.Ground.phase }, { on := 4, ground := Go.Ground.phase }, { on := 5, ground := Go.Ground.phase }, { on := 6, ground := Go.Ground.phase }, { on := 7, ground := Go.Ground.phase }, { on := 8, ground := Go.Ground.phase }, { on := 9, ground := Go.Ground.phase }], guard := none }) rfl (by kernel_rfl) rfl ?_
            refine R13.dost8 rfl rfl rfl ?_
            intro X14 R14
            refine ⟨fun _ => R14.below, ?_⟩
            simp only [Act.put, List.setIfInBounds_toArray, List.set_cons_zero, List.set_cons_succ]
            refine doneL (by kernel_rfl) (Calm.normal ?_) _
            exact ⟨rfl, _, _, rfl, R14⟩
        ·
          refine R10.doeight (by go_simp) ?_
          intro g15 X15 R15
          refine ⟨fun _ => R15.below, ?_⟩
          simp only [Act.put, List.setIfInBounds_toArray, List.set_cons_zero, List.set_cons_succ]
          refine oneL (i := 3) (o := { dst := some 35, op := Go.Op.call { callee := Go.Callee.value (Go.Operand.func 24), args := #[Go.Operand.tmp 32, Go.Operand.tmp 34], argTypes := #[66, 66] }, type := 69, pos := "ref.go:230", after := #[{ on := 0, ground := Go.Ground.data }, { on := 2, ground := Go.Ground.data }, { on := 2, ground := Go.Ground.chain }], guard := none }) rfl (by kernel_rfl) rfl ?_
          ·
            refine R15.docall (f := 24) (args := #[.agg (nb false X), .agg (nb false 1000000)]) (v := .tuple #[.agg (nb false q), .agg (nb false m)]) (by go_simp) (C7.out _) ?_
            intro X16 R16
            refine ⟨fun _ => R16.below, ?_⟩
            simp only [Act.put, List.setIfInBounds_toArray, List.set_cons_zero, List.set_cons_succ]
            refine takeL (i := 4) (oi := { dst := some 31, op := Go.Op.move (Go.Operand.tmp 35), type := 69, pos := "ref.go:230", after := #[{ on := 3, ground := Go.Ground.data }], guard := none }) (v := .tuple #[.agg (nb false q), .agg (nb false m)]) [9, 10] rfl (by kernel_rfl) (by kernel_rfl) (by kernel_rfl) (by kernel_rfl) (fun _ _ _ h => calm_panic h) rfl ?_ R16.below ?_
            · intro W hW; go_simp
            simp only [Act.put, List.setIfInBounds_toArray, List.set_cons_zero, List.set_cons_succ]
            refine takeL (i := 5) (oi := { dst := some 36, op := Go.Op.extract (Go.Operand.tmp 31) 0, type := 66, pos := "ref.go:230", after := #[{ on := 4, ground := Go.Ground.data }], guard := none }) (v := .agg (nb false q)) [9, 10] rfl (by kernel_rfl) (by kernel_rfl) (by kernel_rfl) (by kernel_rfl) (fun _ _ _ h => calm_panic h) rfl ?_ R16.below ?_
            · intro W hW; go_simp
            simp only [Act.put, List.setIfInBounds_toArray, List.set_cons_zero, List.set_cons_succ]
            refine takeL (i := 6) (oi := { dst := some 37, op := Go.Op.extract (Go.Operand.tmp 31) 1, type := 66, pos := "ref.go:230", after := #[{ on := 4, ground := Go.Ground.data }, { on := 9, ground := Go.Ground.gcOnly Go.Departure.lateStores }], guard := none }) (v := .agg (nb false m)) [10] rfl (by kernel_rfl) (by kernel_rfl) (by kernel_rfl) (by kernel_rfl) (fun _ _ _ h => calm_panic h) rfl ?_ R16.below ?_
            · intro W hW; go_simp
            simp only [Act.put, List.setIfInBounds_toArray, List.set_cons_zero, List.set_cons_succ]
            refine oneL (i := 9) (o := { dst := none, op := Go.Op.store 66 (Go.Operand.tmp 12) (Go.Operand.tmp 36), type := 0, pos := "ref.go:230", after := #[{ on := 7, ground := Go.Ground.data }, { on := 5, ground := Go.Ground.data }, { on := 3, ground := Go.Ground.chain }, { on := 0, ground := Go.Ground.phase }, { on := 1, ground := Go.Ground.phase }, { on := 2, ground := Go.Ground.phase }, { on := 3, ground := Go.Ground.phase }, { on := 4, ground := Go.Ground.phase }, { on := 5, ground := Go.Ground.phase }, { on := 6, ground := Go.Ground.textOnly Go.Departure.lateStores }, { on := 7, ground := Go.Ground.phase }, { on := 8, ground := Go.Ground.phase }], guard := none }) rfl (by kernel_rfl) rfl ?_
            refine R16.dost7 rfl rfl rfl ?_
            intro X17 R17
            refine ⟨fun _ => R17.below, ?_⟩
            simp only [Act.put, List.setIfInBounds_toArray, List.set_cons_zero, List.set_cons_succ]
            refine oneL (i := 10) (o := { dst := none, op := Go.Op.store 66 (Go.Operand.tmp 13) (Go.Operand.tmp 37), type := 0, pos := "ref.go:230", after := #[{ on := 8, ground := Go.Ground.data }, { on := 6, ground := Go.Ground.data }, { on := 9, ground := Go.Ground.chain }, { on := 0, ground := Go.Ground.phase }, { on := 1, ground := Go.Ground.phase }, { on := 2, ground := Go.Ground.phase }, { on := 3, ground := Go.Ground.phase }, { on := 4, ground := Go.Ground.phase }, { on := 5, ground := Go.Ground.phase }, { on := 6, ground := Go.Ground.phase }, { on := 7, ground := Go.Ground.phase }, { on := 8, ground := Go.Ground.phase }, { on := 9, ground := Go.Ground.phase }], guard := none }) rfl (by kernel_rfl) rfl ?_
            refine R17.dost8 rfl rfl rfl ?_
            intro X18 R18
            refine ⟨fun _ => R18.below, ?_⟩
            simp only [Act.put, List.setIfInBounds_toArray, List.set_cons_zero, List.set_cons_succ]
            refine doneL (by kernel_rfl) (Calm.normal ?_) _
            exact ⟨rfl, _, _, rfl, R18⟩
      ·
        refine R0.doeight (by go_simp) ?_
        intro g19 X19 R19
        refine ⟨fun _ => R19.below, ?_⟩
        simp only [Act.put, List.setIfInBounds_toArray, List.set_cons_zero, List.set_cons_succ]
        refine twoL (i := 3) (j := 7) (o := { dst := some 35, op := Go.Op.call { callee := Go.Callee.value (Go.Operand.func 24), args := #[Go.Operand.tmp 32, Go.Operand.tmp 34], argTypes := #[66, 66] }, type := 69, pos := "ref.go:230", after := #[{ on := 0, ground := Go.Ground.data }, { on := 2, ground := Go.Ground.data }, { on := 2, ground := Go.Ground.chain }], guard := none }) (o' := { dst := some 12, op := Go.Op.alloc 66, type := 0, pos := "ref.go:230", after := #[], guard := none }) rfl rfl (by kernel_rfl) rfl rfl ?_ ?_
        ·
          refine R19.docall (f := 24) (args := #[.agg (nb false X), .agg (nb false 1000000)]) (v := .tuple #[.agg (nb false q), .agg (nb false m)]) (by go_simp) (C7.out _) ?_
          intro X20 R20
          refine ⟨fun _ => R20.below, ?_⟩
          simp only [Act.put, List.setIfInBounds_toArray, List.set_cons_zero, List.set_cons_succ]
          refine takeL (i := 4) (oi := { dst := some 31, op := Go.Op.move (Go.Operand.tmp 35), type := 69, pos := "ref.go:230", after := #[{ on := 3, ground := Go.Ground.data }], guard := none }) (v := .tuple #[.agg (nb false q), .agg (nb false m)]) [9, 10] rfl (by kernel_rfl) (by kernel_rfl) (by kernel_rfl) (by kernel_rfl) (fun _ _ _ h => calm_panic h) rfl ?_ R20.below ?_
          · intro W hW; go_simp
          simp only [Act.put, List.setIfInBounds_toArray, List.set_cons_zero, List.set_cons_succ]
          refine takeL (i := 5) (oi := { dst := some 36, op := Go.Op.extract (Go.Operand.tmp 31) 0, type := 66, pos := "ref.go:230", after := #[{ on := 4, ground := Go.Ground.data }], guard := none }) (v := .agg (nb false q)) [9, 10] rfl (by kernel_rfl) (by kernel_rfl) (by kernel_rfl) (by kernel_rfl) (fun _ _ _ h => calm_panic h) rfl ?_ R20.below ?_
          · intro W hW; go_simp
          simp only [Act.put, List.setIfInBounds_toArray, List.set_cons_zero, List.set_cons_succ]
          refine takeL (i := 6) (oi := { dst := some 37, op := Go.Op.extract (Go.Operand.tmp 31) 1, type := 66, pos := "ref.go:230", after := #[{ on := 4, ground := Go.Ground.data }, { on := 9, ground := Go.Ground.gcOnly Go.Departure.lateStores }], guard := none }) (v := .agg (nb false m)) [10] rfl (by kernel_rfl) (by kernel_rfl) (by kernel_rfl) (by kernel_rfl) (fun _ _ _ h => calm_panic h) rfl ?_ R20.below ?_
          · intro W hW; go_simp
          simp only [Act.put, List.setIfInBounds_toArray, List.set_cons_zero, List.set_cons_succ]
          refine oneL (i := 7) (o := { dst := some 12, op := Go.Op.alloc 66, type := 0, pos := "ref.go:230", after := #[], guard := none }) rfl (by kernel_rfl) rfl ?_
          ·
            refine R20.doseven (by go_simp) ?_
            intro g21 X21 R21
            refine ⟨fun _ => R21.below, ?_⟩
            simp only [Act.put, List.setIfInBounds_toArray, List.set_cons_zero, List.set_cons_succ]
            refine oneL (i := 9) (o := { dst := none, op := Go.Op.store 66 (Go.Operand.tmp 12) (Go.Operand.tmp 36), type := 0, pos := "ref.go:230", after := #[{ on := 7, ground := Go.Ground.data }, { on := 5, ground := Go.Ground.data }, { on := 3, ground := Go.Ground.chain }, { on := 0, ground := Go.Ground.phase }, { on := 1, ground := Go.Ground.phase }, { on := 2, ground := Go.Ground.phase }, { on := 3, ground := Go.Ground.phase }, { on := 4, ground := Go.Ground.phase }, { on := 5, ground := Go.Ground.phase }, { on := 6, ground := Go.Ground.textOnly Go.Departure.lateStores }, { on := 7, ground := Go.Ground.phase }, { on := 8, ground := Go.Ground.phase }], guard := none }) rfl (by kernel_rfl) rfl ?_
            refine R21.dost7 rfl rfl rfl ?_
            intro X22 R22
            refine ⟨fun _ => R22.below, ?_⟩
            simp only [Act.put, List.setIfInBounds_toArray, List.set_cons_zero, List.set_cons_succ]
            refine oneL (i := 10) (o := { dst := none, op := Go.Op.store 66 (Go.Operand.tmp 13) (Go.Operand.tmp 37), type := 0, pos := "ref.go:230", after := #[{ on := 8, ground := Go.Ground.data }, { on := 6, ground := Go.Ground.data }, { on := 9, ground := Go.Ground.chain }, { on := 0, ground := Go.Ground.phase }, { on := 1, ground := Go.Ground.phase }, { on := 2, ground := Go.Ground.phase }, { on := 3, ground := Go.Ground.phase }, { on := 4, ground := Go.Ground.phase }, { on := 5, ground := Go.Ground.phase }, { on := 6, ground := Go.Ground.phase }, { on := 7, ground := Go.Ground.phase }, { on := 8, ground := Go.Ground.phase }, { on := 9, ground := Go.Ground.phase }], guard := none }) rfl (by kernel_rfl) rfl ?_
            refine R22.dost8 rfl rfl rfl ?_
            intro X23 R23
            refine ⟨fun _ => R23.below, ?_⟩
            simp only [Act.put, List.setIfInBounds_toArray, List.set_cons_zero, List.set_cons_succ]
            refine doneL (by kernel_rfl) (Calm.normal ?_) _
            exact ⟨rfl, _, _, rfl, R23⟩
        ·
          refine R19.doseven (by go_simp) ?_
          intro g24 X24 R24
          refine ⟨fun _ => R24.below, ?_⟩
          simp only [Act.put, List.setIfInBounds_toArray, List.set_cons_zero, List.set_cons_succ]
          refine oneL (i := 3) (o := { dst := some 35, op := Go.Op.call { callee := Go.Callee.value (Go.Operand.func 24), args := #[Go.Operand.tmp 32, Go.Operand.tmp 34], argTypes := #[66, 66] }, type := 69, pos := "ref.go:230", after := #[{ on := 0, ground := Go.Ground.data }, { on := 2, ground := Go.Ground.data }, { on := 2, ground := Go.Ground.chain }], guard := none }) rfl (by kernel_rfl) rfl ?_
          ·
            refine R24.docall (f := 24) (args := #[.agg (nb false X), .agg (nb false 1000000)]) (v := .tuple #[.agg (nb false q), .agg (nb false m)]) (by go_simp) (C7.out _) ?_
            intro X25 R25
            refine ⟨fun _ => R25.below, ?_⟩
            simp only [Act.put, List.setIfInBounds_toArray, List.set_cons_zero, List.set_cons_succ]
            refine takeL (i := 4) (oi := { dst := some 31, op := Go.Op.move (Go.Operand.tmp 35), type := 69, pos := "ref.go:230", after := #[{ on := 3, ground := Go.Ground.data }], guard := none }) (v := .tuple #[.agg (nb false q), .agg (nb false m)]) [9, 10] rfl (by kernel_rfl) (by kernel_rfl) (by kernel_rfl) (by kernel_rfl) (fun _ _ _ h => calm_panic h) rfl ?_ R25.below ?_
            · intro W hW; go_simp
            simp only [Act.put, List.setIfInBounds_toArray, List.set_cons_zero, List.set_cons_succ]
            refine takeL (i := 5) (oi := { dst := some 36, op := Go.Op.extract (Go.Operand.tmp 31) 0, type := 66, pos := "ref.go:230", after := #[{ on := 4, ground := Go.Ground.data }], guard := none }) (v := .agg (nb false q)) [9, 10] rfl (by kernel_rfl) (by kernel_rfl) (by kernel_rfl) (by kernel_rfl) (fun _ _ _ h => calm_panic h) rfl ?_ R25.below ?_
            · intro W hW; go_simp
            simp only [Act.put, List.setIfInBounds_toArray, List.set_cons_zero, List.set_cons_succ]
            refine takeL (i := 6) (oi := { dst := some 37, op := Go.Op.extract (Go.Operand.tmp 31) 1, type := 66, pos := "ref.go:230", after := #[{ on := 4, ground := Go.Ground.data }, { on := 9, ground := Go.Ground.gcOnly Go.Departure.lateStores }], guard := none }) (v := .agg (nb false m)) [10] rfl (by kernel_rfl) (by kernel_rfl) (by kernel_rfl) (by kernel_rfl) (fun _ _ _ h => calm_panic h) rfl ?_ R25.below ?_
            · intro W hW; go_simp
            simp only [Act.put, List.setIfInBounds_toArray, List.set_cons_zero, List.set_cons_succ]
            refine oneL (i := 9) (o := { dst := none, op := Go.Op.store 66 (Go.Operand.tmp 12) (Go.Operand.tmp 36), type := 0, pos := "ref.go:230", after := #[{ on := 7, ground := Go.Ground.data }, { on := 5, ground := Go.Ground.data }, { on := 3, ground := Go.Ground.chain }, { on := 0, ground := Go.Ground.phase }, { on := 1, ground := Go.Ground.phase }, { on := 2, ground := Go.Ground.phase }, { on := 3, ground := Go.Ground.phase }, { on := 4, ground := Go.Ground.phase }, { on := 5, ground := Go.Ground.phase }, { on := 6, ground := Go.Ground.textOnly Go.Departure.lateStores }, { on := 7, ground := Go.Ground.phase }, { on := 8, ground := Go.Ground.phase }], guard := none }) rfl (by kernel_rfl) rfl ?_
            refine R25.dost7 rfl rfl rfl ?_
            intro X26 R26
            refine ⟨fun _ => R26.below, ?_⟩
            simp only [Act.put, List.setIfInBounds_toArray, List.set_cons_zero, List.set_cons_succ]
            refine oneL (i := 10) (o := { dst := none, op := Go.Op.store 66 (Go.Operand.tmp 13) (Go.Operand.tmp 37), type := 0, pos := "ref.go:230", after := #[{ on := 8, ground := Go.Ground.data }, { on := 6, ground := Go.Ground.data }, { on := 9, ground := Go.Ground.chain }, { on := 0, ground := Go.Ground.phase }, { on := 1, ground := Go.Ground.phase }, { on := 2, ground := Go.Ground.phase }, { on := 3, ground := Go.Ground.phase }, { on := 4, ground := Go.Ground.phase }, { on := 5, ground := Go.Ground.phase }, { on := 6, ground := Go.Ground.phase }, { on := 7, ground := Go.Ground.phase }, { on := 8, ground := Go.Ground.phase }, { on := 9, ground := Go.Ground.phase }], guard := none }) rfl (by kernel_rfl) rfl ?_
            refine R26.dost8 rfl rfl rfl ?_
            intro X27 R27
            refine ⟨fun _ => R27.below, ?_⟩
            simp only [Act.put, List.setIfInBounds_toArray, List.set_cons_zero, List.set_cons_succ]
            refine doneL (by kernel_rfl) (Calm.normal ?_) _
            exact ⟨rfl, _, _, rfl, R27⟩
    ·
      refine R0.doseven (by go_simp) ?_
      intro g28 X28 R28
      refine ⟨fun _ => R28.below, ?_⟩
      simp only [Act.put, List.setIfInBounds_toArray, List.set_cons_zero, List.set_cons_succ]
      refine twoL (i := 2) (j := 8) (o := { dst := some 34, op := Go.Op.call { callee := Go.Callee.value (Go.Operand.func 23), args := #[Go.Operand.tmp 33], argTypes := #[52] }, type := 66, pos := "ref.go:230", after := #[{ on := 1, ground := Go.Ground.data }], guard := none }) (o' := { dst := some 13, op := Go.Op.alloc 66, type := 0, pos := "ref.go:230", after := #[], guard := none }) rfl rfl (by kernel_rfl) rfl rfl ?_ ?_
      ·
        refine R28.docall (f := 23) (args := #[.int .u64 1000000]) (v := .agg (nb false 1000000)) (by go_simp) (C6.out _) ?_
        intro X29 R29
        refine ⟨fun _ => R29.below, ?_⟩
        simp only [Act.put, List.setIfInBounds_toArray, List.set_cons_zero, List.set_cons_succ]
        refine twoL (i := 3) (j := 8) (o := { dst := some 35, op := Go.Op.call { callee := Go.Callee.value (Go.Operand.func 24), args := #[Go.Operand.tmp 32, Go.Operand.tmp 34], argTypes := #[66, 66] }, type := 69, pos := "ref.go:230", after := #[{ on := 0, ground := Go.Ground.data }, { on := 2, ground := Go.Ground.data }, { on := 2, ground := Go.Ground.chain }], guard := none }) (o' := { dst := some 13, op := Go.Op.alloc 66, type := 0, pos := "ref.go:230", after := #[], guard := none }) rfl rfl (by kernel_rfl) rfl rfl ?_ ?_
        ·
          refine R29.docall (f := 24) (args := #[.agg (nb false X), .agg (nb false 1000000)]) (v := .tuple #[.agg (nb false q), .agg (nb false m)]) (by go_simp) (C7.out _) ?_
          intro X30 R30
          refine ⟨fun _ => R30.below, ?_⟩
          simp only [Act.put, List.setIfInBounds_toArray, List.set_cons_zero, List.set_cons_succ]
          refine takeL (i := 4) (oi := { dst := some 31, op := Go.Op.move (Go.Operand.tmp 35), type := 69, pos := "ref.go:230", after := #[{ on := 3, ground := Go.Ground.data }], guard := none }) (v := .tuple #[.agg (nb false q), .agg (nb false m)]) [9, 10] rfl (by kernel_rfl) (by kernel_rfl) (by kernel_rfl) (by kernel_rfl) (fun _ _ _ h => calm_panic h) rfl ?_ R30.below ?_
          · intro W hW; go_simp
          simp only [Act.put, List.setIfInBounds_toArray, List.set_cons_zero, List.set_cons_succ]
          refine takeL (i := 5) (oi := { dst := some 36, op := Go.Op.extract (Go.Operand.tmp 31) 0, type := 66, pos := "ref.go:230", after := #[{ on := 4, ground := Go.Ground.data }], guard := none }) (v := .agg (nb false q)) [9, 10] rfl (by kernel_rfl) (by kernel_rfl) (by kernel_rfl) (by kernel_rfl) (fun _ _ _ h => calm_panic h) rfl ?_ R30.below ?_
          · intro W hW; go_simp
          simp only [Act.put, List.setIfInBounds_toArray, List.set_cons_zero, List.set_cons_succ]
          refine takeL (i := 6) (oi := { dst := some 37, op := Go.Op.extract (Go.Operand.tmp 31) 1, type := 66, pos := "ref.go:230", after := #[{ on := 4, ground := Go.Ground.data }, { on := 9, ground := Go.Ground.gcOnly Go.Departure.lateStores }], guard := none }) (v := .agg (nb false m)) [10] rfl (by kernel_rfl) (by kernel_rfl) (by kernel_rfl) (by kernel_rfl) (fun _ _ _ h => calm_panic h) rfl ?_ R30.below ?_
          · intro W hW; go_simp
          simp only [Act.put, List.setIfInBounds_toArray, List.set_cons_zero, List.set_cons_succ]
          refine oneL (i := 8) (o := { dst := some 13, op := Go.Op.alloc 66, type := 0, pos := "ref.go:230", after := #[], guard := none }) rfl (by kernel_rfl) rfl ?_
          ·
            refine R30.doeight (by go_simp) ?_
            intro g31 X31 R31
            refine ⟨fun _ => R31.below, ?_⟩
            simp only [Act.put, List.setIfInBounds_toArray, List.set_cons_zero, List.set_cons_succ]
            refine oneL (i := 9) (o := { dst := none, op := Go.Op.store 66 (Go.Operand.tmp 12) (Go.Operand.tmp 36), type := 0, pos := "ref.go:230", after := #[{ on := 7, ground := Go.Ground.data }, { on := 5, ground := Go.Ground.data }, { on := 3, ground := Go.Ground.chain }, { on := 0, ground := Go.Ground.phase }, { on := 1, ground := Go.Ground.phase }, { on := 2, ground := Go.Ground.phase }, { on := 3, ground := Go.Ground.phase }, { on := 4, ground := Go.Ground.phase }, { on := 5, ground := Go.Ground.phase }, { on := 6, ground := Go.Ground.textOnly Go.Departure.lateStores }, { on := 7, ground := Go.Ground.phase }, { on := 8, ground := Go.Ground.phase }], guard := none }) rfl (by kernel_rfl) rfl ?_
            refine R31.dost7 rfl rfl rfl ?_
            intro X32 R32
            refine ⟨fun _ => R32.below, ?_⟩
            simp only [Act.put, List.setIfInBounds_toArray, List.set_cons_zero, List.set_cons_succ]
            refine oneL (i := 10) (o := { dst := none, op := Go.Op.store 66 (Go.Operand.tmp 13) (Go.Operand.tmp 37), type := 0, pos := "ref.go:230", after := #[{ on := 8, ground := Go.Ground.data }, { on := 6, ground := Go.Ground.data }, { on := 9, ground := Go.Ground.chain }, { on := 0, ground := Go.Ground.phase }, { on := 1, ground := Go.Ground.phase }, { on := 2, ground := Go.Ground.phase }, { on := 3, ground := Go.Ground.phase }, { on := 4, ground := Go.Ground.phase }, { on := 5, ground := Go.Ground.phase }, { on := 6, ground := Go.Ground.phase }, { on := 7, ground := Go.Ground.phase }, { on := 8, ground := Go.Ground.phase }, { on := 9, ground := Go.Ground.phase }], guard := none }) rfl (by kernel_rfl) rfl ?_
            refine R32.dost8 rfl rfl rfl ?_
            intro X33 R33
            refine ⟨fun _ => R33.below, ?_⟩
            simp only [Act.put, List.setIfInBounds_toArray, List.set_cons_zero, List.set_cons_succ]
            refine doneL (by kernel_rfl) (Calm.normal ?_) _
            exact ⟨rfl, _, _, rfl, R33⟩
        ·
          refine R29.doeight (by go_simp) ?_
          intro g34 X34 R34
          refine ⟨fun _ => R34.below, ?_⟩
          simp only [Act.put, List.setIfInBounds_toArray, List.set_cons_zero, List.set_cons_succ]
          refine oneL (i := 3) (o := { dst := some 35, op := Go.Op.call { callee := Go.Callee.value (Go.Operand.func 24), args := #[Go.Operand.tmp 32, Go.Operand.tmp 34], argTypes := #[66, 66] }, type := 69, pos := "ref.go:230", after := #[{ on := 0, ground := Go.Ground.data }, { on := 2, ground := Go.Ground.data }, { on := 2, ground := Go.Ground.chain }], guard := none }) rfl (by kernel_rfl) rfl ?_
          ·
            refine R34.docall (f := 24) (args := #[.agg (nb false X), .agg (nb false 1000000)]) (v := .tuple #[.agg (nb false q), .agg (nb false m)]) (by go_simp) (C7.out _) ?_
            intro X35 R35
            refine ⟨fun _ => R35.below, ?_⟩
            simp only [Act.put, List.setIfInBounds_toArray, List.set_cons_zero, List.set_cons_succ]
            refine takeL (i := 4) (oi := { dst := some 31, op := Go.Op.move (Go.Operand.tmp 35), type := 69, pos := "ref.go:230", after := #[{ on := 3, ground := Go.Ground.data }], guard := none }) (v := .tuple #[.agg (nb false q), .agg (nb false m)]) [9, 10] rfl (by kernel_rfl) (by kernel_rfl) (by kernel_rfl) (by kernel_rfl) (fun _ _ _ h => calm_panic h) rfl ?_ R35.below ?_
            · intro W hW; go_simp
            simp only [Act.put, List.setIfInBounds_toArray, List.set_cons_zero, List.set_cons_succ]
            refine takeL (i := 5) (oi := { dst := some 36, op := Go.Op.extract (Go.Operand.tmp 31) 0, type := 66, pos := "ref.go:230", after := #[{ on := 4, ground := Go.Ground.data }], guard := none }) (v := .agg (nb false q)) [9, 10] rfl (by kernel_rfl) (by kernel_rfl) (by kernel_rfl) (by kernel_rfl) (fun _ _ _ h => calm_panic h) rfl ?_ R35.below ?_
            · intro W hW; go_simp
            simp only [Act.put, List.setIfInBounds_toArray, List.set_cons_zero, List.set_cons_succ]
            refine takeL (i := 6) (oi := { dst := some 37, op := Go.Op.extract (Go.Operand.tmp 31) 1, type := 66, pos := "ref.go:230", after := #[{ on := 4, ground := Go.Ground.data }, { on := 9, ground := Go.Ground.gcOnly Go.Departure.lateStores }], guard := none }) (v := .agg (nb false m)) [10] rfl (by kernel_rfl) (by kernel_rfl) (by kernel_rfl) (by kernel_rfl) (fun _ _ _ h => calm_panic h) rfl ?_ R35.below ?_
            · intro W hW; go_simp
            simp only [Act.put, List.setIfInBounds_toArray, List.set_cons_zero, List.set_cons_succ]
            refine oneL (i := 9) (o := { dst := none, op := Go.Op.store 66 (Go.Operand.tmp 12) (Go.Operand.tmp 36), type := 0, pos := "ref.go:230", after := #[{ on := 7, ground := Go.Ground.data }, { on := 5, ground := Go.Ground.data }, { on := 3, ground := Go.Ground.chain }, { on := 0, ground := Go.Ground.phase }, { on := 1, ground := Go.Ground.phase }, { on := 2, ground := Go.Ground.phase }, { on := 3, ground := Go.Ground.phase }, { on := 4, ground := Go.Ground.phase }, { on := 5, ground := Go.Ground.phase }, { on := 6, ground := Go.Ground.textOnly Go.Departure.lateStores }, { on := 7, ground := Go.Ground.phase }, { on := 8, ground := Go.Ground.phase }], guard := none }) rfl (by kernel_rfl) rfl ?_
            refine R35.dost7 rfl rfl rfl ?_
            intro X36 R36
            refine ⟨fun _ => R36.below, ?_⟩
            simp only [Act.put, List.setIfInBounds_toArray, List.set_cons_zero, List.set_cons_succ]
            refine oneL (i := 10) (o := { dst := none, op := Go.Op.store 66 (Go.Operand.tmp 13) (Go.Operand.tmp 37), type := 0, pos := "ref.go:230", after := #[{ on := 8, ground := Go.Ground.data }, { on := 6, ground := Go.Ground.data }, { on := 9, ground := Go.Ground.chain }, { on := 0, ground := Go.Ground.phase }, { on := 1, ground := Go.Ground.phase }, { on := 2, ground := Go.Ground.phase }, { on := 3, ground := Go.Ground.phase }, { on := 4, ground := Go.Ground.phase }, { on := 5, ground := Go.Ground.phase }, { on := 6, ground := Go.Ground.phase }, { on := 7, ground := Go.Ground.phase }, { on := 8, ground := Go.Ground.phase }, { on := 9, ground := Go.Ground.phase }], guard := none }) rfl (by kernel_rfl) rfl ?_
            refine R36.dost8 rfl rfl rfl ?_
            intro X37 R37
            refine ⟨fun _ => R37.below, ?_⟩
            simp only [Act.put, List.setIfInBounds_toArray, List.set_cons_zero, List.set_cons_succ]
            refine doneL (by kernel_rfl) (Calm.normal ?_) _
            exact ⟨rfl, _, _, rfl, R37⟩
      ·
        refine R28.doeight (by go_simp) ?_
        intro g38 X38 R38
        refine ⟨fun _ => R38.below, ?_⟩
        simp only [Act.put, List.setIfInBounds_toArray, List.set_cons_zero, List.set_cons_succ]
        refine oneL (i := 2) (o := { dst := some 34, op := Go.Op.call { callee := Go.Callee.value (Go.Operand.func 23), args := #[Go.Operand.tmp 33], argTypes := #[52] }, type := 66, pos := "ref.go:230", after := #[{ on := 1, ground := Go.Ground.data }], guard := none }) rfl (by kernel_rfl) rfl ?_
        ·
          refine R38.docall (f := 23) (args := #[.int .u64 1000000]) (v := .agg (nb false 1000000)) (by go_simp) (C6.out _) ?_
          intro X39 R39
          refine ⟨fun _ => R39.below, ?_⟩
          simp only [Act.put, List.setIfInBounds_toArray, List.set_cons_zero, List.set_cons_succ]
          refine oneL (i := 3) (o := { dst := some 35, op := Go.Op.call { callee := Go.Callee.value (Go.Operand.func 24), args := #[Go.Operand.tmp 32, Go.Operand.tmp 34], argTypes := #[66, 66] }, type := 69, pos := "ref.go:230", after := #[{ on := 0, ground := Go.Ground.data }, { on := 2, ground := Go.Ground.data }, { on := 2, ground := Go.Ground.chain }], guard := none }) rfl (by kernel_rfl) rfl ?_
          ·
            refine R39.docall (f := 24) (args := #[.agg (nb false X), .agg (nb false 1000000)]) (v := .tuple #[.agg (nb false q), .agg (nb false m)]) (by go_simp) (C7.out _) ?_
            intro X40 R40
            refine ⟨fun _ => R40.below, ?_⟩
            simp only [Act.put, List.setIfInBounds_toArray, List.set_cons_zero, List.set_cons_succ]
            refine takeL (i := 4) (oi := { dst := some 31, op := Go.Op.move (Go.Operand.tmp 35), type := 69, pos := "ref.go:230", after := #[{ on := 3, ground := Go.Ground.data }], guard := none }) (v := .tuple #[.agg (nb false q), .agg (nb false m)]) [9, 10] rfl (by kernel_rfl) (by kernel_rfl) (by kernel_rfl) (by kernel_rfl) (fun _ _ _ h => calm_panic h) rfl ?_ R40.below ?_
            · intro W hW; go_simp
            simp only [Act.put, List.setIfInBounds_toArray, List.set_cons_zero, List.set_cons_succ]
            refine takeL (i := 5) (oi := { dst := some 36, op := Go.Op.extract (Go.Operand.tmp 31) 0, type := 66, pos := "ref.go:230", after := #[{ on := 4, ground := Go.Ground.data }], guard := none }) (v := .agg (nb false q)) [9, 10] rfl (by kernel_rfl) (by kernel_rfl) (by kernel_rfl) (by kernel_rfl) (fun _ _ _ h => calm_panic h) rfl ?_ R40.below ?_
            · intro W hW; go_simp
            simp only [Act.put, List.setIfInBounds_toArray, List.set_cons_zero, List.set_cons_succ]
            refine takeL (i := 6) (oi := { dst := some 37, op := Go.Op.extract (Go.Operand.tmp 31) 1, type := 66, pos := "ref.go:230", after := #[{ on := 4, ground := Go.Ground.data }, { on := 9, ground := Go.Ground.gcOnly Go.Departure.lateStores }], guard := none }) (v := .agg (nb false m)) [10] rfl (by kernel_rfl) (by kernel_rfl) (by kernel_rfl) (by kernel_rfl) (fun _ _ _ h => calm_panic h) rfl ?_ R40.below ?_
            · intro W hW; go_simp
            simp only [Act.put, List.setIfInBounds_toArray, List.set_cons_zero, List.set_cons_succ]
            refine oneL (i := 9) (o := { dst := none, op := Go.Op.store 66 (Go.Operand.tmp 12) (Go.Operand.tmp 36), type := 0, pos := "ref.go:230", after := #[{ on := 7, ground := Go.Ground.data }, { on := 5, ground := Go.Ground.data }, { on := 3, ground := Go.Ground.chain }, { on := 0, ground := Go.Ground.phase }, { on := 1, ground := Go.Ground.phase }, { on := 2, ground := Go.Ground.phase }, { on := 3, ground := Go.Ground.phase }, { on := 4, ground := Go.Ground.phase }, { on := 5, ground := Go.Ground.phase }, { on := 6, ground := Go.Ground.textOnly Go.Departure.lateStores }, { on := 7, ground := Go.Ground.phase }, { on := 8, ground := Go.Ground.phase }], guard := none }) rfl (by kernel_rfl) rfl ?_
            refine R40.dost7 rfl rfl rfl ?_
            intro X41 R41
            refine ⟨fun _ => R41.below, ?_⟩
            simp only [Act.put, List.setIfInBounds_toArray, List.set_cons_zero, List.set_cons_succ]
            refine oneL (i := 10) (o := { dst := none, op := Go.Op.store 66 (Go.Operand.tmp 13) (Go.Operand.tmp 37), type := 0, pos := "ref.go:230", after := #[{ on := 8, ground := Go.Ground.data }, { on := 6, ground := Go.Ground.data }, { on := 9, ground := Go.Ground.chain }, { on := 0, ground := Go.Ground.phase }, { on := 1, ground := Go.Ground.phase }, { on := 2, ground := Go.Ground.phase }, { on := 3, ground := Go.Ground.phase }, { on := 4, ground := Go.Ground.phase }, { on := 5, ground := Go.Ground.phase }, { on := 6, ground := Go.Ground.phase }, { on := 7, ground := Go.Ground.phase }, { on := 8, ground := Go.Ground.phase }, { on := 9, ground := Go.Ground.phase }], guard := none }) rfl (by kernel_rfl) rfl ?_
            refine R41.dost8 rfl rfl rfl ?_
            intro X42 R42
            refine ⟨fun _ => R42.below, ?_⟩
            simp only [Act.put, List.setIfInBounds_toArray, List.set_cons_zero, List.set_cons_succ]
            refine doneL (by kernel_rfl) (Calm.normal ?_) _
            exact ⟨rfl, _, _, rfl, R42⟩
    ·
      refine R0.doeight (by go_simp) ?_
      intro g43 X43 R43
      refine ⟨fun _ => R43.below, ?_⟩
      simp only [Act.put, List.setIfInBounds_toArray, List.set_cons_zero, List.set_cons_succ]
      refine twoL (i := 2) (j := 7) (o := { dst := some 34, op := Go.Op.call { callee := Go.Callee.value (Go.Operand.func 23), args := #[Go.Operand.tmp 33], argTypes := #[52] }, type := 66, pos := "ref.go:230", after := #[{ on := 1, ground := Go.Ground.data }], guard := none }) (o' := { dst := some 12, op := Go.Op.alloc 66, type := 0, pos := "ref.go:230", after := #[], guard := none }) rfl rfl (by kernel_rfl) rfl rfl ?_ ?_
      ·
        refine R43.docall (f := 23) (args := #[.int .u64 1000000]) (v := .agg (nb false 1000000)) (by go_simp) (C6.out _) ?_
        intro X44 R44
        refine ⟨fun _ => R44.below, ?_⟩
        simp only [Act.put, List.setIfInBounds_toArray, List.set_cons_zero, List.set_cons_succ]
        refine twoL (i := 3) (j := 7) (o := { dst := some 35, op := Go.Op.call { callee := Go.Callee.value (Go.Operand.func 24), args := #[Go.Operand.tmp 32, Go.Operand.tmp 34], argTypes := #[66, 66] }, type := 69, pos := "ref.go:230", after := #[{ on := 0, ground := Go.Ground.data }, { on := 2, ground := Go.Ground.data }, { on := 2, ground := Go.Ground.chain }], guard := none }) (o' := { dst := some 12, op := Go.Op.alloc 66, type := 0, pos := "ref.go:230", after := #[], guard := none }) rfl rfl (by kernel_rfl) rfl rfl ?_ ?_
        ·
          refine R44.docall (f := 24) (args := #[.agg (nb false X), .agg (nb false 1000000)]) (v := .tuple #[.agg (nb false q), .agg (nb false m)]) (by go_simp) (C7.out _) ?_
          intro X45 R45
          refine ⟨fun _ => R45.below, ?_⟩
          simp only [Act.put, List.setIfInBounds_toArray, List.set_cons_zero, List.set_cons_succ]
          refine takeL (i := 4) (oi := { dst := some 31, op := Go.Op.move (Go.Operand.tmp 35), type := 69, pos := "ref.go:230", after := #[{ on := 3, ground := Go.Ground.data }], guard := none }) (v := .tuple #[.agg (nb false q), .agg (nb false m)]) [9, 10] rfl (by kernel_rfl) (by kernel_rfl) (by kernel_rfl) (by kernel_rfl) (fun _ _ _ h => calm_panic h) rfl ?_ R45.below ?_
          · intro W hW; go_simp
          simp only [Act.put, List.setIfInBounds_toArray, List.set_cons_zero, List.set_cons_succ]
          refine takeL (i := 5) (oi := { dst := some 36, op := Go.Op.extract (Go.Operand.tmp 31) 0, type := 66, pos := "ref.go:230", after := #[{ on := 4, ground := Go.Ground.data }], guard := none }) (v := .agg (nb false q)) [9, 10] rfl (by kernel_rfl) (by kernel_rfl) (by kernel_rfl) (by kernel_rfl) (fun _ _ _ h => calm_panic h) rfl ?_ R45.below ?_
          · intro W hW; go_simp
          simp only [Act.put, List.setIfInBounds_toArray, List.set_cons_zero, List.set_cons_succ]
          refine takeL (i := 6) (oi := { dst := some 37, op := Go.Op.extract (Go.Operand.tmp 31) 1, type := 66, pos := "ref.go:230", after := #[{ on := 4, ground := Go.Ground.data }, { on := 9, ground := Go.Ground.gcOnly Go.Departure.lateStores }], guard := none }) (v := .agg (nb false m)) [10] rfl (by kernel_rfl) (by kernel_rfl) (by kernel_rfl) (by kernel_rfl) (fun _ _ _ h => calm_panic h) rfl ?_ R45.below ?_
          · intro W hW; go_simp
          simp only [Act.put, List.setIfInBounds_toArray, List.set_cons_zero, List.set_cons_succ]
          refine oneL (i := 7) (o := { dst := some 12, op := Go.Op.alloc 66, type := 0, pos := "ref.go:230", after := #[], guard := none }) rfl (by kernel_rfl) rfl ?_
          ·
            refine R45.doseven (by go_simp) ?_
            intro g46 X46 R46
            refine ⟨fun _ => R46.below, ?_⟩
            simp only [Act.put, List.setIfInBounds_toArray, List.set_cons_zero, List.set_cons_succ]
            refine oneL (i := 9) (o := { dst := none, op := Go.Op.store 66 (Go.Operand.tmp 12) (Go.Operand.tmp 36), type := 0, pos := "ref.go:230", after := #[{ on := 7, ground := Go.Ground.data }, { on := 5, ground := Go.Ground.data }, { on := 3, ground := Go.Ground.chain }, { on := 0, ground := Go.Ground.phase }, { on := 1, ground := Go.Ground.phase }, { on := 2, ground := Go.Ground.phase }, { on := 3, ground := Go.Ground.phase }, { on := 4, ground := Go.Ground.phase }, { on := 5, ground := Go.Ground.phase }, { on := 6, ground := Go.Ground.textOnly Go.Departure.lateStores }, { on := 7, ground := Go.Ground.phase }, { on := 8, ground := Go.Ground.phase }], guard := none }) rfl (by kernel_rfl) rfl ?_
            refine R46.dost7 rfl rfl rfl ?_
            intro X47 R47
            refine ⟨fun _ => R47.below, ?_⟩
            simp only [Act.put, List.setIfInBounds_toArray, List.set_cons_zero, List.set_cons_succ]
            refine oneL (i := 10) (o := { dst := none, op := Go.Op.store 66 (Go.Operand.tmp 13) (Go.Operand.tmp 37), type := 0, pos := "ref.go:230", after := #[{ on := 8, ground := Go.Ground.data }, { on := 6, ground := Go.Ground.data }, { on := 9, ground := Go.Ground.chain }, { on := 0, ground := Go.Ground.phase }, { on := 1, ground := Go.Ground.phase }, { on := 2, ground := Go.Ground.phase }, { on := 3, ground := Go.Ground.phase }, { on := 4, ground := Go.Ground.phase }, { on := 5, ground := Go.Ground.phase }, { on := 6, ground := Go.Ground.phase }, { on := 7, ground := Go.Ground.phase }, { on := 8, ground := Go.Ground.phase }, { on := 9, ground := Go.Ground.phase }], guard := none }) rfl (by kernel_rfl) rfl ?_
            refine R47.dost8 rfl rfl rfl ?_
            intro X48 R48
            refine ⟨fun _ => R48.below, ?_⟩
            simp only [Act.put, List.setIfInBounds_toArray, List.set_cons_zero, List.set_cons_succ]
            refine doneL (by kernel_rfl) (Calm.normal ?_) _
            exact ⟨rfl, _, _, rfl, R48⟩
        ·
          refine R44.doseven (by go_simp) ?_
          intro g49 X49 R49
          refine ⟨fun _ => R49.below, ?_⟩
          simp only [Act.put, List.setIfInBounds_toArray, List.set_cons_zero, List.set_cons_succ]
          refine oneL (i := 3) (o := { dst := some 35, op := Go.Op.call { callee := Go.Callee.value (Go.Operand.func 24), args := #[Go.Operand.tmp 32, Go.Operand.tmp 34], argTypes := #[66, 66] }, type := 69, pos := "ref.go:230", after := #[{ on := 0, ground := Go.Ground.data }, { on := 2, ground := Go.Ground.data }, { on := 2, ground := Go.Ground.chain }], guard := none }) rfl (by kernel_rfl) rfl ?_
          ·
            refine R49.docall (f := 24) (args := #[.agg (nb false X), .agg (nb false 1000000)]) (v := .tuple #[.agg (nb false q), .agg (nb false m)]) (by go_simp) (C7.out _) ?_
            intro X50 R50
            refine ⟨fun _ => R50.below, ?_⟩
            simp only [Act.put, List.setIfInBounds_toArray, List.set_cons_zero, List.set_cons_succ]
            refine takeL (i := 4) (oi := { dst := some 31, op := Go.Op.move (Go.Operand.tmp 35), type := 69, pos := "ref.go:230", after := #[{ on := 3, ground := Go.Ground.data }], guard := none }) (v := .tuple #[.agg (nb false q), .agg (nb false m)]) [9, 10] rfl (by kernel_rfl) (by kernel_rfl) (by kernel_rfl) (by kernel_rfl) (fun _ _ _ h => calm_panic h) rfl ?_ R50.below ?_
            · intro W hW; go_simp
            simp only [Act.put, List.setIfInBounds_toArray, List.set_cons_zero, List.set_cons_succ]
            refine takeL (i := 5) (oi := { dst := some 36, op := Go.Op.extract (Go.Operand.tmp 31) 0, type := 66, pos := "ref.go:230", after := #[{ on := 4, ground := Go.Ground.data }], guard := none }) (v := .agg (nb false q)) [9, 10] rfl (by kernel_rfl) (by kernel_rfl) (by kernel_rfl) (by kernel_rfl) (fun _ _ _ h => calm_panic h) rfl ?_ R50.below ?_
            · intro W hW; go_simp
            simp only [Act.put, List.setIfInBounds_toArray, List.set_cons_zero, List.set_cons_succ]
            refine takeL (i := 6) (oi := { dst := some 37, op := Go.Op.extract (Go.Operand.tmp 31) 1, type := 66, pos := "ref.go:230", after := #[{ on := 4, ground := Go.Ground.data }, { on := 9, ground := Go.Ground.gcOnly Go.Departure.lateStores }], guard := none }) (v := .agg (nb false m)) [10] rfl (by kernel_rfl) (by kernel_rfl) (by kernel_rfl) (by kernel_rfl) (fun _ _ _ h => calm_panic h) rfl ?_ R50.below ?_
            · intro W hW; go_simp
            simp only [Act.put, List.setIfInBounds_toArray, List.set_cons_zero, List.set_cons_succ]
            refine oneL (i := 9) (o := { dst := none, op := Go.Op.store 66 (Go.Operand.tmp 12) (Go.Operand.tmp 36), type := 0, pos := "ref.go:230", after := #[{ on := 7, ground := Go.Ground.data }, { on := 5, ground := Go.Ground.data }, { on := 3, ground := Go.Ground.chain }, { on := 0, ground := Go.Ground.phase }, { on := 1, ground := Go.Ground.phase }, { on := 2, ground := Go.Ground.phase }, { on := 3, ground := Go.Ground.phase }, { on := 4, ground := Go.Ground.phase }, { on := 5, ground := Go.Ground.phase }, { on := 6, ground := Go.Ground.textOnly Go.Departure.lateStores }, { on := 7, ground := Go.Ground.phase }, { on := 8, ground := Go.Ground.phase }], guard := none }) rfl (by kernel_rfl) rfl ?_
            refine R50.dost7 rfl rfl rfl ?_
            intro X51 R51
            refine ⟨fun _ => R51.below, ?_⟩
            simp only [Act.put, List.setIfInBounds_toArray, List.set_cons_zero, List.set_cons_succ]
            refine oneL (i := 10) (o := { dst := none, op := Go.Op.store 66 (Go.Operand.tmp 13) (Go.Operand.tmp 37), type := 0, pos := "ref.go:230", after := #[{ on := 8, ground := Go.Ground.data }, { on := 6, ground := Go.Ground.data }, { on := 9, ground := Go.Ground.chain }, { on := 0, ground := Go.Ground.phase }, { on := 1, ground := Go.Ground.phase }, { on := 2, ground := Go.Ground.phase }, { on := 3, ground := Go.Ground.phase }, { on := 4, ground := Go.Ground.phase }, { on := 5, ground := Go.Ground.phase }, { on := 6, ground := Go.Ground.phase }, { on := 7, ground := Go.Ground.phase }, { on := 8, ground := Go.Ground.phase }, { on := 9, ground := Go.Ground.phase }], guard := none }) rfl (by kernel_rfl) rfl ?_
            refine R51.dost8 rfl rfl rfl ?_
            intro X52 R52
            refine ⟨fun _ => R52.below, ?_⟩
            simp only [Act.put, List.setIfInBounds_toArray, List.set_cons_zero, List.set_cons_succ]
            refine doneL (by kernel_rfl) (Calm.normal ?_) _
            exact ⟨rfl, _, _, rfl, R52⟩
      ·
        refine R43.doseven (by go_simp) ?_
        intro g53 X53 R53
        refine ⟨fun _ => R53.below, ?_⟩
        simp only [Act.put, List.setIfInBounds_toArray, List.set_cons_zero, List.set_cons_succ]
        refine oneL (i := 2) (o := { dst := some 34, op := Go.Op.call { callee := Go.Callee.value (Go.Operand.func 23), args := #[Go.Operand.tmp 33], argTypes := #[52] }, type := 66, pos := "ref.go:230", after := #[{ on := 1, ground := Go.Ground.data }], guard := none }) rfl (by kernel_rfl) rfl ?_
        ·
          refine R53.docall (f := 23) (args := #[.int .u64 1000000]) (v := .agg (nb false 1000000)) (by go_simp) (C6.out _) ?_
          intro X54 R54
          refine ⟨fun _ => R54.below, ?_⟩
          simp only [Act.put, List.setIfInBounds_toArray, List.set_cons_zero, List.set_cons_succ]
          refine oneL (i := 3) (o := { dst := some 35, op := Go.Op.call { callee := Go.Callee.value (Go.Operand.func 24), args := #[Go.Operand.tmp 32, Go.Operand.tmp 34], argTypes := #[66, 66] }, type := 69, pos := "ref.go:230", after := #[{ on := 0, ground := Go.Ground.data }, { on := 2, ground := Go.Ground.data }, { on := 2, ground := Go.Ground.chain }], guard := none }) rfl (by kernel_rfl) rfl ?_
          ·
            refine R54.docall (f := 24) (args := #[.agg (nb false X), .agg (nb false 1000000)]) (v := .tuple #[.agg (nb false q), .agg (nb false m)]) (by go_simp) (C7.out _) ?_
            intro X55 R55
            refine ⟨fun _ => R55.below, ?_⟩
            simp only [Act.put, List.setIfInBounds_toArray, List.set_cons_zero, List.set_cons_succ]
            refine takeL (i := 4) (oi := { dst := some 31, op := Go.Op.move (Go.Operand.tmp 35), type := 69, pos := "ref.go:230", after := #[{ on := 3, ground := Go.Ground.data }], guard := none }) (v := .tuple #[.agg (nb false q), .agg (nb false m)]) [9, 10] rfl (by kernel_rfl) (by kernel_rfl) (by kernel_rfl) (by kernel_rfl) (fun _ _ _ h => calm_panic h) rfl ?_ R55.below ?_
            · intro W hW; go_simp
            simp only [Act.put, List.setIfInBounds_toArray, List.set_cons_zero, List.set_cons_succ]
            refine takeL (i := 5) (oi := { dst := some 36, op := Go.Op.extract (Go.Operand.tmp 31) 0, type := 66, pos := "ref.go:230", after := #[{ on := 4, ground := Go.Ground.data }], guard := none }) (v := .agg (nb false q)) [9, 10] rfl (by kernel_rfl) (by kernel_rfl) (by kernel_rfl) (by kernel_rfl) (fun _ _ _ h => calm_panic h) rfl ?_ R55.below ?_
            · intro W hW; go_simp
            simp only [Act.put, List.setIfInBounds_toArray, List.set_cons_zero, List.set_cons_succ]
            refine takeL (i := 6) (oi := { dst := some 37, op := Go.Op.extract (Go.Operand.tmp 31) 1, type := 66, pos := "ref.go:230", after := #[{ on := 4, ground := Go.Ground.data }, { on := 9, ground := Go.Ground.gcOnly Go.Departure.lateStores }], guard := none }) (v := .agg (nb false m)) [10] rfl (by kernel_rfl) (by kernel_rfl) (by kernel_rfl) (by kernel_rfl) (fun _ _ _ h => calm_panic h) rfl ?_ R55.below ?_
            · intro W hW; go_simp
            simp only [Act.put, List.setIfInBounds_toArray, List.set_cons_zero, List.set_cons_succ]
            refine oneL (i := 9) (o := { dst := none, op := Go.Op.store 66 (Go.Operand.tmp 12) (Go.Operand.tmp 36), type := 0, pos := "ref.go:230", after := #[{ on := 7, ground := Go.Ground.data }, { on := 5, ground := Go.Ground.data }, { on := 3, ground := Go.Ground.chain }, { on := 0, ground := Go.Ground.phase }, { on := 1, ground := Go.Ground.phase }, { on := 2, ground := Go.Ground.phase }, { on := 3, ground := Go.Ground.phase }, { on := 4, ground := Go.Ground.phase }, { on := 5, ground := Go.Ground.phase }, { on := 6, ground := Go.Ground.textOnly Go.Departure.lateStores }, { on := 7, ground := Go.Ground.phase }, { on := 8, ground := Go.Ground.phase }], guard := none }) rfl (by kernel_rfl) rfl ?_
            refine R55.dost7 rfl rfl rfl ?_
            intro X56 R56
            refine ⟨fun _ => R56.below, ?_⟩
            simp only [Act.put, List.setIfInBounds_toArray, List.set_cons_zero, List.set_cons_succ]
            refine oneL (i := 10) (o := { dst := none, op := Go.Op.store 66 (Go.Operand.tmp 13) (Go.Operand.tmp 37), type := 0, pos := "ref.go:230", after := #[{ on := 8, ground := Go.Ground.data }, { on := 6, ground := Go.Ground.data }, { on := 9, ground := Go.Ground.chain }, { on := 0, ground := Go.Ground.phase }, { on := 1, ground := Go.Ground.phase }, { on := 2, ground := Go.Ground.phase }, { on := 3, ground := Go.Ground.phase }, { on := 4, ground := Go.Ground.phase }, { on := 5, ground := Go.Ground.phase }, { on := 6, ground := Go.Ground.phase }, { on := 7, ground := Go.Ground.phase }, { on := 8, ground := Go.Ground.phase }, { on := 9, ground := Go.Ground.phase }], guard := none }) rfl (by kernel_rfl) rfl ?_
            refine R56.dost8 rfl rfl rfl ?_
            intro X57 R57
            refine ⟨fun _ => R57.below, ?_⟩
            simp only [Act.put, List.setIfInBounds_toArray, List.set_cons_zero, List.set_cons_succ]
            refine doneL (by kernel_rfl) (Calm.normal ?_) _
            exact ⟨rfl, _, _, rfl, R57⟩
  ·
    rintro e a' W ⟨rfl, g7, g8, rfl, hR⟩
    obtain ⟨k1, q7⟩ := hR.h7 g7 q rfl
    obtain ⟨k2, q8⟩ := hR.h8 g8 m rfl
    have H7 := Lib.hid q7
    have H8 := Lib.hid q8
    have HB6 := Lib.hid (HB.out.trans (hR.below.mono HB.out.size))
    clear hR q7 q8 k1 k2
    simp only [Act.put, List.setIfInBounds_toArray, List.set_cons_zero, List.set_cons_succ]
    go_wp2_with (refine load_num H7.out rfl rfl rfl ?_)
    refine (C8.out _).mono ?_
    rintro e w7 ⟨rfl, hB7⟩
    have H9 := Lib.hid (H8.out.below H8.out.lt hB7)
    have HB7 := Lib.hid (HB6.out.trans (hB7.mono HB6.out.size))
    clear hB7
    go_wp2_with (refine load_num H9.out rfl rfl rfl ?_)
    refine (C9.out _).mono ?_
    rintro e w8 ⟨rfl, hB8⟩
    have HB8 := Lib.hid (HB7.out.trans (hB8.mono HB7.out.size))
    clear hB8
    rcases HV.out with ⟨e0, e1, e2, e3⟩ | ⟨e0, e1, e2, e3⟩
    · subst e0 e1 e2 e3
      go_wp2
      go_ret3
      exact ⟨rfl, HB8.out⟩
    · subst e0 e1 e2 e3
      go_wp2
      go_ret3
      exact ⟨rfl, HB8.out⟩
/-- The document's Carry by 1000000. -/
theorem rcarry_any (n num r : Nat) (hn : n < 18446744073709551616) (hm : num < 18446744073709551616) (hr : r < 1000000) (w : World) :
    Calls Try.prog 16 #[.int .u64 n, .int .u64 num, .int .u64 1000000, .int .u64 r] w fun e w' => e = .returned (.tuple #[.int .u64 (cQ (n * num + r) : Int), .int .u64 (cR (n * num + r) : Int), .int .i64 (cE (n * num + r))]) ∧ Below w.heap.size w w' := by
  have hP : n * num ≤ 18446744073709551615 * 18446744073709551615 := Nat.mul_le_mul (by omega) (by omega)
  by_cases h : (n * num + r) / 1000000 < 18446744073709551616
  · obtain ⟨e1, e2, e3⟩ := c_in h
    rw [e1, e2, e3]
    exact rcarry_walk n num r _ _ _ _ _ true (by omega) (by omega) hr rfl rfl (by omega) rfl rfl (fun W => uint_in false _ (by omega) W) _ _ _ (.inl ⟨rfl, rfl, rfl, rfl⟩) w
  · obtain ⟨e1, e2, e3⟩ := c_out h
    rw [e1, e2, e3]
    exact rcarry_walk n num r _ _ _ _ 0 false (by omega) (by omega) hr rfl rfl (by omega) rfl rfl (fun W => uint_out false _ (by omega) W) _ _ _ (.inr ⟨rfl, rfl, rfl, rfl⟩) w
end Go.Proofs.Ytbffmobjiiicoaa
