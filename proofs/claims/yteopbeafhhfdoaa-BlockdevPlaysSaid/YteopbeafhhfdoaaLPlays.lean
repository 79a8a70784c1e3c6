/- The statement BlockdevPlays, walked. -/
import Derived.Test.YteopbeafhhfdoaaLPlaysM
set_option linter.unusedVariables false
set_option linter.unusedSimpArgs false
namespace Go.Proofs.Yteopbeafhhfdoaa
open Go.RowKit Go.Maps
set_option maxRecDepth 100000 in
set_option maxHeartbeats 8000000 in
theorem playsW (n : Int) (a1 : Option Addr) (len1 cap1 : Nat) (L1 : Nat → Opn) (w : World) (hn : (Lit.int .i64 n).wf = true) (h1 : (len1 ≤ cap1 ∧ cap1 ≤ maxLen) ∧ OpsAt w.heap.size w a1 len1 L1) :
    Calls Try.prog 3 #[.int .i64 n, .slice a1 len1 cap1] w fun e w' => e = .returned (.bool true) ∧ Below w.heap.size w w' := by
  have HA := Lib.hid h1.2
  clear h1 hn
  by_cases g1 : GreatIs len1 L1
  case neg =>
    have C1 := Lib.hid (great_no (cap := cap1) HA.out g1)
    clear g1
    go_enter Try.func3, Try.ntmps3
    go_wp2_with (first | (go_at_call 7; with_reducible refine C1.out.mono ?_; rintro e w' ⟨rfl, rfl⟩) | fail)
    go_ret
    exact ⟨rfl, Below.refl _ _⟩
  have C1 := Lib.hid (great_yes (cap := cap1) HA.out g1)
  by_cases hs : n < 1 ∨ 65536 < n
  case pos =>
    have N1 := Lib.hid (new_no n hs)
    have N2 := Lib.hid (rnew_no n hs)
    clear g1 hs
    go_enter Try.func3, Try.ntmps3
    go_wp2_with (first | (go_at_call 7; with_reducible refine C1.out.mono ?_; rintro e w' ⟨rfl, rfl⟩) | (go_at_call 8; refine (N1.out _).mono ?_; rintro e w' ⟨rfl, rfl⟩) | (go_at_call 9; refine (N2.out _).mono ?_; rintro e w' ⟨rfl, rfl⟩) | fail)
    go_ret
    exact ⟨rfl, Below.refl _ _⟩
  obtain ⟨m, rfl⟩ : ∃ m : Nat, n = m := ⟨n.toNat, by omega⟩
  have hm0 : 0 < m := by omega
  have hm1 : m ≤ 65536 := by omega
  have N1 := Lib.hid (new_yes m hm0 hm1)
  have N2 := Lib.hid (rnew_yes m hm0 hm1)
  have HG := Lib.hid g1
  have HM := Lib.hid (And.intro hm0 hm1)
  clear g1 hs hm0 hm1
  go_enter Try.func3, Try.ntmps3
  go_wp2_with (first | (go_at_call 7; with_reducible refine C1.out.mono ?_; rintro e w' ⟨rfl, rfl⟩) | (go_at_call 8; refine (N1.out w).mono ?_; rintro e w1 ⟨p0, rfl, hd1, hf1, hb1⟩; have H1 := Lib.hid (And.intro hd1 (And.intro hf1 hb1)); clear hd1 hf1 hb1) | (go_at_call 9; refine (N2.out w1).mono ?_; rintro e w2 ⟨q0, rfl, hd2, hf2, hb2, hu2⟩; have H2 := Lib.hid (And.intro hd2 (And.intro hf2 (And.intro hb2 hu2))); have HCP := Lib.hid (copy_any p0 (Dv.new m) w2 (H1.out.1.below hb2)); clear hd2 hf2 hb2 hu2) | (go_at_call 10; refine HCP.out.mono ?_; rintro e w3 ⟨po, rfl, hd3, hf3, hb3⟩; have S0 := Lib.hid (plS0 H1.out.1 H1.out.2.1 H1.out.2.2 H2.out.1 H2.out.2.1 H2.out.2.2.1 H2.out.2.2.2 hd3 hf3 hb3); clear hd3 hf3 hb3) | fail)
  obtain ⟨D, hD⟩ : ∃ D, p0.D = D := ⟨_, rfl⟩
  obtain ⟨Q, hQ⟩ : ∃ Q, q0.D = Q := ⟨_, rfl⟩
  rw [hD, hQ] at S0 ⊢
  clear hD hQ H1 H2 N1 N2 C1 HCP
  go_loopw [42] (fun i wr => ∃ (k : Nat) (p : Pl) (q : Rl) (d : Dv), k ≤ len1 ∧ i = .int .i64 (k : Int) ∧ PlS w m D Q po k wr p q d) (fun i _ => (len1 - intOf i).toNat)
  case atStart => exact ⟨0, p0, q0, _, Nat.zero_le _, rfl, S0.out⟩
  case round =>
    obtain ⟨k, p, q, d, hk, rfl, hS⟩ := hrel
    clear S0
    by_cases hlt : k < len1
    · have i1 : (k : Int) < (len1 : Int) := by omega
      have in0 : (0 : Int) ≤ (k : Int) := by omega
      have wk : wrap64 ((k : Int) + 1) = ((k + 1 : Nat) : Int) := by have := HG.out.1; unfold wrap64; omega
      obtain ⟨b, o, hao, hop⟩ := HA.out.op hlt
      have LE := Lib.hid (HG.out.2 k hlt).2
      obtain ⟨x, hx⟩ : ∃ x, L1 k = x := ⟨_, rfl⟩
      rw [hx] at hop LE
      subst hao
      have OK := Lib.hid hop
      have S := Lib.hid hS
      have HK := Lib.hid hlt
      have HLEN := Lib.hid HG.out.1
      clear hop hS hlt hk hx
      obtain ⟨wo, hwo⟩ : ∃ wo, wo = wr := ⟨_, rfl⟩
      subst hwo
      have hld := OK.out.load _ S.out.below
      unfold opC at hld
      go_wp2_with (first | (refine load_any_op hld rfl rfl rfl ?_) | fail)
      clear hld
      have HBX := Lib.hid (At.new 36 wo (opC x))
      obtain ⟨X, hX⟩ : ∃ X, wo.alloc (.cells (opC x) 36) = X := ⟨_, rfl⟩
      have hXs : X.heap.size = wo.heap.size + 1 := by rw [← hX]; simp
      have hSX := S.out.next (show Below wo.heap.size wo X by rw [← hX]; exact (Below.refl _ _).alloc (Nat.le_refl _) _)
      rw [hX] at HBX
      have hX' := hX
      unfold opC at hX'
      rw [hX']
      clear hX'
      have HXS := Lib.hid hXs
      have HSX := Lib.hid hSX
      have HDO := Lib.hid (do_any (hSX.both.grow (Below.refl _ _).drew) x OK.out.is LE.out (OK.out.K _ hSX.below.drew) (by have := hSX.calls; have := HLEN.out; have := HK.out; omega) (by have := hSX.u; have := HLEN.out; have := HK.out; omega))
      rw [hSX.D, hSX.Q] at HDO
      have HNB := Lib.hid (show ¬ own p wo.heap.size ∧ ¬ rown q wo.heap.size from ⟨fun e => by have := S.out.both.dev.lt _ e; omega, fun e => by have := S.out.both.ref.lt _ e; omega⟩)
      clear hX hXs hSX S
      refine regionL (fun _ : World => True) 22 (by kernel_rfl) ?_
      refine takeL (i := 0) (oi := { dst := some 49, op := Go.Op.move (Go.Operand.tmp 5), type := 24, pos := "law.go:94", after := #[], guard := none }) (v := ptr D) [22, 21, 20, 19, 18, 17, 16, 15, 14, 13, 12, 11, 10, 9, 8, 7, 6, 5, 4, 3] rfl (by kernel_rfl) (by kernel_rfl) (by kernel_rfl) (by kernel_rfl) (fun _ _ _ h => calm_panic h) rfl ?_ trivial ?_
      · intro Z hZ; go_simp
      simp only [Act.put, List.setIfInBounds_toArray, List.set_cons_zero, List.set_cons_succ]
      refine takeL (i := 1) (oi := { dst := some 50, op := Go.Op.move (Go.Operand.tmp 7), type := 28, pos := "law.go:94", after := #[], guard := none }) (v := ptr Q) [22, 21, 20, 19, 18, 17, 16, 15, 14, 13, 12, 11, 10, 9, 8, 7, 6, 5, 4, 3] rfl (by kernel_rfl) (by kernel_rfl) (by kernel_rfl) (by kernel_rfl) (fun _ _ _ h => calm_panic h) rfl ?_ trivial ?_
      · intro Z hZ; go_simp
      simp only [Act.put, List.setIfInBounds_toArray, List.set_cons_zero, List.set_cons_succ]
      refine oneL (i := 2) (o := { dst := some 51, op := Go.Op.load 36 (Go.Operand.tmp 11), type := 36, pos := "law.go:94", after := #[], guard := none }) rfl (by kernel_rfl) rfl ?_
      refine wp_by_run (w' := X.drew) (v := .agg (opC x)) (exec_load rfl rfl (load_box HBX.out)) ⟨fun _ => trivial, ?_⟩
      simp only [Act.put, List.setIfInBounds_toArray, List.set_cons_zero, List.set_cons_succ]
      refine oneL (i := 3) (o := { dst := some 52, op := Go.Op.call { callee := Go.Callee.value (Go.Operand.func 11), args := #[Go.Operand.tmp 49, Go.Operand.tmp 50, Go.Operand.tmp 51], argTypes := #[24, 28, 36] }, type := 4, pos := "law.go:94", after := #[{ on := 0, ground := Go.Ground.data }, { on := 1, ground := Go.Ground.data }, { on := 2, ground := Go.Ground.data }], guard := none }) rfl (by kernel_rfl) rfl ?_
      refine wp_by_call (f := 11) (args := #[ptr D, ptr Q, .agg (opC x)]) (by go_simp) (HDO.out.mono ?_)
      rintro e X1 ⟨rfl, p1, q1, d1, hb1, hm1, hl1, hc1⟩
      have S1 := Lib.hid ((HSX.out.next (Below.refl _ _).drew).did hb1 hm1 hl1 hc1)
      have HB1 := Lib.hid ((show At 36 X.drew wo.heap.size (opC x) from HBX.out).upd hm1.upd (fun e => by
        have h1 := HSX.out.both.dev.lt
        have h2 := HSX.out.both.ref.lt
        have h3 := HXS.out
        have h4 : wo.heap.size < X.heap.size := by omega
        rcases e with e | e
        · exact HNB.out.1 e
        · exact HNB.out.2 e) : At 36 X1 wo.heap.size (opC x))
      clear hb1 hm1 hl1 hc1 HDO HSX HBX
      have HDN := Lib.hid (down_any p1 d1 X1 S1.out.both.dev)
      have HCL := Lib.hid (calls_any p1 d1 X1 S1.out.both.dev)
      rw [S1.out.D] at HDN HCL
      refine ⟨_, rfl, fun _ => trivial, ?_⟩
      simp only [Act.put, List.setIfInBounds_toArray, List.set_cons_zero, List.set_cons_succ]
      refine takeL (i := 4) (oi := { dst := some 53, op := Go.Op.unOp Go.UnOp.not 4 (Go.Operand.tmp 52), type := 4, pos := "law.go:94", after := #[{ on := 3, ground := Go.Ground.data }], guard := none }) (v := .bool false) [22, 21, 20, 19, 18, 17, 16, 15, 14, 13, 12, 11, 10, 9, 8, 7, 6, 5] rfl (by kernel_rfl) (by kernel_rfl) (by kernel_rfl) (by kernel_rfl) (fun _ _ _ h => calm_panic h) rfl ?_ trivial ?_
      · intro Z hZ; go_simp
      simp only [Act.put, List.setIfInBounds_toArray, List.set_cons_zero, List.set_cons_succ]
      refine takeL (i := 5) (oi := { dst := some 54, op := Go.Op.move (Go.Operand.tmp 53), type := 4, pos := "law.go:94", after := #[{ on := 4, ground := Go.Ground.data }, { on := 3, ground := Go.Ground.chain }], guard := none }) (v := .bool false) [22, 21, 20, 19, 18, 17, 16, 15, 14, 13, 12, 11, 10, 9, 8, 7, 6] rfl (by kernel_rfl) (by kernel_rfl) (by kernel_rfl) (by kernel_rfl) (fun _ _ _ h => calm_panic h) rfl ?_ trivial ?_
      · intro Z hZ; go_simp
      simp only [Act.put, List.setIfInBounds_toArray, List.set_cons_zero, List.set_cons_succ]
      have q4 : X1.cell? ⟨Q, 4, none⟩ = some (.bool d1.down) := by rw [← S1.out.Q]; exact S1.out.both.ref.dev.cell 4
      have q5 : X1.cell? ⟨Q, 5, none⟩ = some (.int .i64 d1.calls) := by rw [← S1.out.Q]; exact S1.out.both.ref.dev.cell 5
      refine AnyL.mono (S' := fun Z : World => Z.cell? ⟨Q, 4, none⟩ = some (.bool d1.down) ∧ Z.cell? ⟨Q, 5, none⟩ = some (.int .i64 d1.calls)) (fun _ _ => trivial) _ _ _ _ ?_
      have q1' : (fun Z : World => Z.cell? ⟨Q, 4, none⟩ = some (.bool d1.down) ∧ Z.cell? ⟨Q, 5, none⟩ = some (.int .i64 d1.calls)) X1 := ⟨q4, q5⟩
      have eb : (d1.down != d1.down) = false := by simp
      have ec : (d1.calls != d1.calls) = false := by simp
      clear q4 q5
      refine takeY (i := 6) (oi := { dst := some 55, op := Go.Op.move (Go.Operand.tmp 5), type := 24, pos := "law.go:94", after := #[{ on := 5, ground := Go.Ground.guard }], guard := some (5, false) }) (v := ptr D) [22, 21, 20, 19, 18, 17, 16, 15, 14, 13, 12, 7] rfl (by kernel_rfl) (by kernel_rfl) (by kernel_rfl) (by kernel_rfl) (fun _ _ _ h => calm_panic h) (.inl ⟨rfl, ?_⟩) q1' ?_
      · intro Z hZ; go_simp
      simp only [Act.put, List.setIfInBounds_toArray, List.set_cons_zero, List.set_cons_succ]
      refine takeY (i := 8) (oi := { dst := some 57, op := Go.Op.move (Go.Operand.tmp 7), type := 28, pos := "law.go:94", after := #[{ on := 5, ground := Go.Ground.guard }], guard := some (5, false) }) (v := ptr Q) [22, 21, 20, 19, 18, 17, 16, 15, 14, 13, 12, 11, 10, 9] rfl (by kernel_rfl) (by kernel_rfl) (by kernel_rfl) (by kernel_rfl) (fun _ _ _ h => calm_panic h) (.inl ⟨rfl, ?_⟩) q1' ?_
      · intro Z hZ; go_simp
      simp only [Act.put, List.setIfInBounds_toArray, List.set_cons_zero, List.set_cons_succ]
      refine takeY (i := 9) (oi := { dst := some 58, op := Go.Op.nilCheck (Go.Operand.tmp 57), type := 0, pos := "law.go:94", after := #[{ on := 8, ground := Go.Ground.data }, { on := 5, ground := Go.Ground.guard }], guard := some (5, false) }) (v := ptr Q) [22, 21, 20, 19, 18, 17, 16, 15, 14, 13, 12, 11, 10] rfl (by kernel_rfl) (by kernel_rfl) (by kernel_rfl) (by kernel_rfl) (fun _ _ _ h => calm_panic h) (.inl ⟨rfl, ?_⟩) q1' ?_
      · intro Z hZ; go_simp
      simp only [Act.put, List.setIfInBounds_toArray, List.set_cons_zero, List.set_cons_succ]
      refine takeY (i := 10) (oi := { dst := some 59, op := Go.Op.fieldAddr 42 (Go.Operand.tmp 58) 4, type := 0, pos := "law.go:94", after := #[{ on := 9, ground := Go.Ground.data }, { on := 5, ground := Go.Ground.guard }], guard := some (5, false) }) (v := .pointer (some ⟨Q, 4, none⟩)) [22, 21, 20, 19, 18, 17, 16, 15, 14, 13, 12, 11] rfl (by kernel_rfl) (by kernel_rfl) (by kernel_rfl) (by kernel_rfl) (fun _ _ _ h => calm_panic h) (.inl ⟨rfl, ?_⟩) q1' ?_
      · intro Z hZ; go_simp
      simp only [Act.put, List.setIfInBounds_toArray, List.set_cons_zero, List.set_cons_succ]
      refine takeY (i := 11) (oi := { dst := some 60, op := Go.Op.load 4 (Go.Operand.tmp 59), type := 4, pos := "law.go:94", after := #[{ on := 10, ground := Go.Ground.data }, { on := 5, ground := Go.Ground.guard }], guard := some (5, false) }) (v := .bool d1.down) [22, 21, 20, 19, 18, 17, 16, 15, 14, 13, 12] rfl (by kernel_rfl) (by kernel_rfl) (by kernel_rfl) (by kernel_rfl) (fun _ _ _ h => calm_panic h) (.inl ⟨rfl, ?_⟩) q1' ?_
      · intro Z hZ; obtain ⟨z1, z2⟩ := hZ; go_simp
      simp only [Act.put, List.setIfInBounds_toArray, List.set_cons_zero, List.set_cons_succ]
      refine oneW (i := 7) (o := { dst := some 56, op := Go.Op.call { callee := Go.Callee.value (Go.Operand.func 12), args := #[Go.Operand.tmp 55], argTypes := #[24] }, type := 4, pos := "law.go:94", after := #[{ on := 6, ground := Go.Ground.data }, { on := 5, ground := Go.Ground.chain }, { on := 5, ground := Go.Ground.guard }], guard := some (5, false) }) rfl (by kernel_rfl) rfl ?_
      refine wp_by_call (f := 12) (args := #[ptr D]) (by go_simp) (HDN.out.mono ?_)
      rintro e Z ⟨rfl, rfl⟩
      refine ⟨_, rfl, fun _ => q1', ?_⟩
      simp only [Act.put, List.setIfInBounds_toArray, List.set_cons_zero, List.set_cons_succ]
      refine takeY (i := 12) (oi := { dst := some 61, op := Go.Op.binOp Go.BinOp.neq 4 (Go.Operand.tmp 56) (Go.Operand.tmp 60) 4, type := 4, pos := "law.go:94", after := #[{ on := 7, ground := Go.Ground.data }, { on := 11, ground := Go.Ground.data }, { on := 5, ground := Go.Ground.guard }], guard := some (5, false) }) (v := .bool false) [22, 21, 20, 19, 18, 17, 16, 15, 14, 13] rfl (by kernel_rfl) (by kernel_rfl) (by kernel_rfl) (by kernel_rfl) (fun _ _ _ h => calm_panic h) (.inl ⟨rfl, ?_⟩) q1' ?_
      · intro Z hZ; go_simp
      simp only [Act.put, List.setIfInBounds_toArray, List.set_cons_zero, List.set_cons_succ]
      refine takeL (i := 13) (oi := { dst := some 62, op := Go.Op.pick (Go.Operand.tmp 54) (Go.Operand.const (Go.Value.bool true)) (Go.Operand.tmp 61), type := 4, pos := "law.go:94", after := #[{ on := 5, ground := Go.Ground.data }, { on := 12, ground := Go.Ground.data }], guard := none }) (v := .bool false) [22, 21, 20, 19, 18, 17, 16, 15, 14] rfl (by kernel_rfl) (by kernel_rfl) (by kernel_rfl) (by kernel_rfl) (fun _ _ _ h => calm_panic h) rfl ?_ q1' ?_
      · intro Z hZ; go_simp
      simp only [Act.put, List.setIfInBounds_toArray, List.set_cons_zero, List.set_cons_succ]
      refine takeL (i := 14) (oi := { dst := some 63, op := Go.Op.move (Go.Operand.tmp 62), type := 4, pos := "law.go:94", after := #[{ on := 13, ground := Go.Ground.data }, { on := 7, ground := Go.Ground.chain }], guard := none }) (v := .bool false) [22, 21, 20, 19, 18, 17, 16, 15] rfl (by kernel_rfl) (by kernel_rfl) (by kernel_rfl) (by kernel_rfl) (fun _ _ _ h => calm_panic h) rfl ?_ q1' ?_
      · intro Z hZ; go_simp
      simp only [Act.put, List.setIfInBounds_toArray, List.set_cons_zero, List.set_cons_succ]
      refine takeY (i := 15) (oi := { dst := some 64, op := Go.Op.move (Go.Operand.tmp 5), type := 24, pos := "law.go:94", after := #[{ on := 14, ground := Go.Ground.guard }], guard := some (14, false) }) (v := ptr D) [22, 21, 16] rfl (by kernel_rfl) (by kernel_rfl) (by kernel_rfl) (by kernel_rfl) (fun _ _ _ h => calm_panic h) (.inl ⟨rfl, ?_⟩) q1' ?_
      · intro Z hZ; go_simp
      simp only [Act.put, List.setIfInBounds_toArray, List.set_cons_zero, List.set_cons_succ]
      refine takeY (i := 17) (oi := { dst := some 66, op := Go.Op.move (Go.Operand.tmp 7), type := 28, pos := "law.go:94", after := #[{ on := 14, ground := Go.Ground.guard }], guard := some (14, false) }) (v := ptr Q) [22, 21, 20, 19, 18] rfl (by kernel_rfl) (by kernel_rfl) (by kernel_rfl) (by kernel_rfl) (fun _ _ _ h => calm_panic h) (.inl ⟨rfl, ?_⟩) q1' ?_
      · intro Z hZ; go_simp
      simp only [Act.put, List.setIfInBounds_toArray, List.set_cons_zero, List.set_cons_succ]
      refine takeY (i := 18) (oi := { dst := some 67, op := Go.Op.nilCheck (Go.Operand.tmp 66), type := 0, pos := "law.go:94", after := #[{ on := 17, ground := Go.Ground.data }, { on := 14, ground := Go.Ground.guard }], guard := some (14, false) }) (v := ptr Q) [22, 21, 20, 19] rfl (by kernel_rfl) (by kernel_rfl) (by kernel_rfl) (by kernel_rfl) (fun _ _ _ h => calm_panic h) (.inl ⟨rfl, ?_⟩) q1' ?_
      · intro Z hZ; go_simp
      simp only [Act.put, List.setIfInBounds_toArray, List.set_cons_zero, List.set_cons_succ]
      refine takeY (i := 19) (oi := { dst := some 68, op := Go.Op.fieldAddr 42 (Go.Operand.tmp 67) 5, type := 0, pos := "law.go:94", after := #[{ on := 18, ground := Go.Ground.data }, { on := 14, ground := Go.Ground.guard }], guard := some (14, false) }) (v := .pointer (some ⟨Q, 5, none⟩)) [22, 21, 20] rfl (by kernel_rfl) (by kernel_rfl) (by kernel_rfl) (by kernel_rfl) (fun _ _ _ h => calm_panic h) (.inl ⟨rfl, ?_⟩) q1' ?_
      · intro Z hZ; go_simp
      simp only [Act.put, List.setIfInBounds_toArray, List.set_cons_zero, List.set_cons_succ]
      refine takeY (i := 20) (oi := { dst := some 69, op := Go.Op.load 3 (Go.Operand.tmp 68), type := 3, pos := "law.go:94", after := #[{ on := 19, ground := Go.Ground.data }, { on := 14, ground := Go.Ground.guard }], guard := some (14, false) }) (v := .int .i64 d1.calls) [22, 21] rfl (by kernel_rfl) (by kernel_rfl) (by kernel_rfl) (by kernel_rfl) (fun _ _ _ h => calm_panic h) (.inl ⟨rfl, ?_⟩) q1' ?_
      · intro Z hZ; obtain ⟨z1, z2⟩ := hZ; go_simp
      simp only [Act.put, List.setIfInBounds_toArray, List.set_cons_zero, List.set_cons_succ]
      refine oneW (i := 16) (o := { dst := some 65, op := Go.Op.call { callee := Go.Callee.value (Go.Operand.func 13), args := #[Go.Operand.tmp 64], argTypes := #[24] }, type := 3, pos := "law.go:94", after := #[{ on := 15, ground := Go.Ground.data }, { on := 14, ground := Go.Ground.chain }, { on := 14, ground := Go.Ground.guard }], guard := some (14, false) }) rfl (by kernel_rfl) rfl ?_
      refine wp_by_call (f := 13) (args := #[ptr D]) (by go_simp) (HCL.out.mono ?_)
      rintro e Z ⟨rfl, rfl⟩
      refine ⟨_, rfl, fun _ => q1', ?_⟩
      simp only [Act.put, List.setIfInBounds_toArray, List.set_cons_zero, List.set_cons_succ]
      refine takeY (i := 21) (oi := { dst := some 70, op := Go.Op.binOp Go.BinOp.neq 3 (Go.Operand.tmp 65) (Go.Operand.tmp 69) 3, type := 4, pos := "law.go:94", after := #[{ on := 16, ground := Go.Ground.data }, { on := 20, ground := Go.Ground.data }, { on := 14, ground := Go.Ground.guard }], guard := some (14, false) }) (v := .bool false) [22] rfl (by kernel_rfl) (by kernel_rfl) (by kernel_rfl) (by kernel_rfl) (fun _ _ _ h => calm_panic h) (.inl ⟨rfl, ?_⟩) q1' ?_
      · intro Z hZ; go_simp
      simp only [Act.put, List.setIfInBounds_toArray, List.set_cons_zero, List.set_cons_succ]
      refine oneL (i := 22) (o := { dst := some 71, op := Go.Op.pick (Go.Operand.tmp 63) (Go.Operand.const (Go.Value.bool true)) (Go.Operand.tmp 70), type := 4, pos := "law.go:94", after := #[{ on := 14, ground := Go.Ground.data }, { on := 21, ground := Go.Ground.data }], guard := none }) rfl (by kernel_rfl) rfl ?_
      refine wp_by_run (w' := X1) (v := .bool false) (by go_simp) ⟨fun h => absurd rfl h, ?_⟩
      simp only [Act.put, List.setIfInBounds_toArray, List.set_cons_zero, List.set_cons_succ]
      refine doneL (by kernel_rfl) (Calm.normal ?_) _
      have HCA := Lib.hid (cached_any p1 d1 X1 S1.out.both.dev)
      rw [S1.out.D] at HCA
      clear HDN HCL q1' eb ec
      go_wp2_with (first | (go_at_call 14; refine HCA.out.mono ?_; rintro e X2 ⟨vc, rfl, hO, hN, hB⟩; obtain ⟨ca, cc, hvc⟩ := cached_form hO; subst hvc; have S2 := Lib.hid (S1.out.next hB); obtain ⟨ra, rc, hrv⟩ := rform S2.out.both.ref; have HRV := Lib.hid hrv; have k2 : X2.cell? ⟨Q, 2, none⟩ = some (.slice ra d1.cache.length rc) := by { rw [← HRV.out, ← S2.out.Q]; exact S2.out.both.ref.dev.cell 2 }; have HO := Lib.hid hO; have HB2 := Lib.hid (HB1.out.below (HB1.out.lt) hB); clear hO hN hB hrv) | fail)
      have HFL := Lib.hid S2.out.both.dev.ok.full
      obtain ⟨C, hC⟩ : ∃ C, d1.cache.length = C := ⟨_, rfl⟩
      have HC := Lib.hid hC
      rw [hC] at k2 HFL ⊢
      clear hC
      go_loopw [84] (fun i wr => ∃ (j : Nat) (u : Nat), j ≤ C ∧ i = .int .i64 (j : Int) ∧ wr = X2.drewN u) (fun i _ => (C - intOf i).toNat)
      case atStart => exact ⟨0, 0, Nat.zero_le _, rfl, rfl⟩
      case round =>
        obtain ⟨j, u, hj, rfl, rfl⟩ := hrel
        by_cases hjl : j < C
        · have j1 : (j : Int) < (C : Int) := by omega
          have j0 : (0 : Int) ≤ (j : Int) := by omega
          have wj : wrap64 ((j : Int) + 1) = ((j + 1 : Nat) : Int) := wrap_succ (by have := HFL.out; omega)
          obtain ⟨cg, cp, hcv, hc0⟩ := cached_at HO.out (k := j) (by rw [HC.out]; exact hjl)
          obtain ⟨g, cap, v, hv, e0, e1, hov, hoff⟩ := rcache_at S2.out.both.ref j (by rw [HC.out]; exact hjl)
          rw [HRV.out, HC.out] at hv
          rw [HC.out] at hcv
          cases hv
          have hcv2 : ca = some ⟨cg, 0, none⟩ := by injection hcv
          subst hcv2
          obtain ⟨y, hy⟩ : ∃ y, (d1.cache[j]'(by rw [HC.out]; exact hjl)).1 = y := ⟨_, rfl⟩
          rw [hy] at hc0 e0
          have HJ := Lib.hid hjl
          clear hcv hy e1 hov hoff hj hjl
          go_wp2_with fail
          have qq : (fun Z : World => Z.cell? ⟨Q, 2, none⟩ = some (.slice (some ⟨g, 0, none⟩) C rc) ∧ Z.cell? ⟨cg, j, none⟩ = some (.int .i64 y) ∧ Z.cell? ⟨g, j * 2, none⟩ = some (.int .i64 y)) (X2.drewN u).drew := ⟨k2, hc0, e0⟩
          refine regionL (fun Z : World => Z.cell? ⟨Q, 2, none⟩ = some (.slice (some ⟨g, 0, none⟩) C rc) ∧ Z.cell? ⟨cg, j, none⟩ = some (.int .i64 y) ∧ Z.cell? ⟨g, j * 2, none⟩ = some (.int .i64 y)) 12 (by kernel_rfl) ?_
          refine takeL (i := 0) (oi := { dst := some 87, op := Go.Op.move (Go.Operand.tmp 12), type := 44, pos := "law.go:102", after := #[], guard := none }) (v := .slice (some ⟨cg, 0, none⟩) C cc) [12, 3, 2] rfl (by kernel_rfl) (by kernel_rfl) (by kernel_rfl) (by kernel_rfl) (fun _ _ _ h => calm_panic h) rfl ?_ qq ?_
          · intro Z hZ; go_simp
          simp only [Act.put, List.setIfInBounds_toArray, List.set_cons_zero, List.set_cons_succ]
          refine takeL (i := 1) (oi := { dst := some 88, op := Go.Op.move (Go.Operand.tmp 13), type := 3, pos := "law.go:102", after := #[], guard := none }) (v := .int .i64 (j : Int)) [12, 3, 2] rfl (by kernel_rfl) (by kernel_rfl) (by kernel_rfl) (by kernel_rfl) (fun _ _ _ h => calm_panic h) rfl ?_ qq ?_
          · intro Z hZ; go_simp
          simp only [Act.put, List.setIfInBounds_toArray, List.set_cons_zero, List.set_cons_succ]
          refine takeL (i := 2) (oi := { dst := some 89, op := Go.Op.indexAddr 44 (Go.Operand.tmp 87) (Go.Operand.tmp 88), type := 0, pos := "law.go:102", after := #[{ on := 0, ground := Go.Ground.data }, { on := 1, ground := Go.Ground.data }], guard := none }) (v := .pointer (some ⟨cg, j, none⟩)) [12, 3] rfl (by kernel_rfl) (by kernel_rfl) (by kernel_rfl) (by kernel_rfl) (fun _ _ _ h => calm_panic h) rfl ?_ qq ?_
          · intro Z hZ; go_simp
          simp only [Act.put, List.setIfInBounds_toArray, List.set_cons_zero, List.set_cons_succ]
          refine takeL (i := 3) (oi := { dst := some 90, op := Go.Op.load 3 (Go.Operand.tmp 89), type := 3, pos := "law.go:102", after := #[{ on := 2, ground := Go.Ground.data }], guard := none }) (v := .int .i64 y) [12] rfl (by kernel_rfl) (by kernel_rfl) (by kernel_rfl) (by kernel_rfl) (fun _ _ _ h => calm_panic h) rfl ?_ qq ?_
          · intro Z hZ; obtain ⟨z1, z2, z3⟩ := hZ; go_simp
          simp only [Act.put, List.setIfInBounds_toArray, List.set_cons_zero, List.set_cons_succ]
          refine takeL (i := 4) (oi := { dst := some 91, op := Go.Op.move (Go.Operand.tmp 7), type := 28, pos := "law.go:102", after := #[], guard := none }) (v := ptr Q) [12, 11, 10, 9, 7, 6, 5] rfl (by kernel_rfl) (by kernel_rfl) (by kernel_rfl) (by kernel_rfl) (fun _ _ _ h => calm_panic h) rfl ?_ qq ?_
          · intro Z hZ; go_simp
          simp only [Act.put, List.setIfInBounds_toArray, List.set_cons_zero, List.set_cons_succ]
          refine takeL (i := 5) (oi := { dst := some 92, op := Go.Op.nilCheck (Go.Operand.tmp 91), type := 0, pos := "law.go:102", after := #[{ on := 4, ground := Go.Ground.data }], guard := none }) (v := ptr Q) [12, 11, 10, 9, 7, 6] rfl (by kernel_rfl) (by kernel_rfl) (by kernel_rfl) (by kernel_rfl) (fun _ _ _ h => calm_panic h) rfl ?_ qq ?_
          · intro Z hZ; go_simp
          simp only [Act.put, List.setIfInBounds_toArray, List.set_cons_zero, List.set_cons_succ]
          refine takeL (i := 6) (oi := { dst := some 93, op := Go.Op.fieldAddr 42 (Go.Operand.tmp 92) 2, type := 0, pos := "law.go:102", after := #[{ on := 5, ground := Go.Ground.data }], guard := none }) (v := .pointer (some ⟨Q, 2, none⟩)) [12, 11, 10, 9, 7] rfl (by kernel_rfl) (by kernel_rfl) (by kernel_rfl) (by kernel_rfl) (fun _ _ _ h => calm_panic h) rfl ?_ qq ?_
          · intro Z hZ; go_simp
          simp only [Act.put, List.setIfInBounds_toArray, List.set_cons_zero, List.set_cons_succ]
          refine takeL (i := 7) (oi := { dst := some 94, op := Go.Op.load 40 (Go.Operand.tmp 93), type := 40, pos := "law.go:102", after := #[{ on := 6, ground := Go.Ground.data }], guard := none }) (v := .slice (some ⟨g, 0, none⟩) C rc) [12, 11, 10, 9] rfl (by kernel_rfl) (by kernel_rfl) (by kernel_rfl) (by kernel_rfl) (fun _ _ _ h => calm_panic h) rfl ?_ qq ?_
          · intro Z hZ; obtain ⟨z1, z2, z3⟩ := hZ; go_simp
          simp only [Act.put, List.setIfInBounds_toArray, List.set_cons_zero, List.set_cons_succ]
          refine takeL (i := 8) (oi := { dst := some 95, op := Go.Op.move (Go.Operand.tmp 13), type := 3, pos := "law.go:102", after := #[], guard := none }) (v := .int .i64 (j : Int)) [12, 11, 10, 9] rfl (by kernel_rfl) (by kernel_rfl) (by kernel_rfl) (by kernel_rfl) (fun _ _ _ h => calm_panic h) rfl ?_ qq ?_
          · intro Z hZ; go_simp
          simp only [Act.put, List.setIfInBounds_toArray, List.set_cons_zero, List.set_cons_succ]
          refine takeL (i := 9) (oi := { dst := some 96, op := Go.Op.indexAddr 40 (Go.Operand.tmp 94) (Go.Operand.tmp 95), type := 0, pos := "law.go:102", after := #[{ on := 7, ground := Go.Ground.data }, { on := 8, ground := Go.Ground.data }], guard := none }) (v := .pointer (some ⟨g, j * 2, none⟩)) [12, 11, 10] rfl (by kernel_rfl) (by kernel_rfl) (by kernel_rfl) (by kernel_rfl) (fun _ _ _ h => calm_panic h) rfl ?_ qq ?_
          · intro Z hZ; go_simp
          simp only [Act.put, List.setIfInBounds_toArray, List.set_cons_zero, List.set_cons_succ]
          refine takeL (i := 10) (oi := { dst := some 97, op := Go.Op.fieldAddr 47 (Go.Operand.tmp 96) 0, type := 0, pos := "law.go:102", after := #[{ on := 9, ground := Go.Ground.data }], guard := none }) (v := .pointer (some ⟨g, j * 2, none⟩)) [12, 11] rfl (by kernel_rfl) (by kernel_rfl) (by kernel_rfl) (by kernel_rfl) (fun _ _ _ h => calm_panic h) rfl ?_ qq ?_
          · intro Z hZ; go_simp
          simp only [Act.put, List.setIfInBounds_toArray, List.set_cons_zero, List.set_cons_succ]
          refine takeL (i := 11) (oi := { dst := some 98, op := Go.Op.load 3 (Go.Operand.tmp 97), type := 3, pos := "law.go:102", after := #[{ on := 10, ground := Go.Ground.data }], guard := none }) (v := .int .i64 y) [12] rfl (by kernel_rfl) (by kernel_rfl) (by kernel_rfl) (by kernel_rfl) (fun _ _ _ h => calm_panic h) rfl ?_ qq ?_
          · intro Z hZ; obtain ⟨z1, z2, z3⟩ := hZ; go_simp
          simp only [Act.put, List.setIfInBounds_toArray, List.set_cons_zero, List.set_cons_succ]
          refine oneL (i := 12) (o := { dst := some 99, op := Go.Op.binOp Go.BinOp.neq 3 (Go.Operand.tmp 90) (Go.Operand.tmp 98) 3, type := 4, pos := "law.go:102", after := #[{ on := 3, ground := Go.Ground.data }, { on := 11, ground := Go.Ground.data }], guard := none }) rfl (by kernel_rfl) rfl ?_
          refine wp_by_run (w' := (X2.drewN u).drew) (v := .bool false) (by go_simp) ⟨fun h => absurd rfl h, ?_⟩
          simp only [Act.put, List.setIfInBounds_toArray, List.set_cons_zero, List.set_cons_succ]
          refine doneL (by kernel_rfl) (Calm.normal ?_) _
          go_wp2
          go_roundw
          case rel => exact ⟨j + 1, u + 1, HJ.out, by first | rfl | rw [wj], rfl⟩
          case measure => exact meas_succ HJ.out wj
        · have hje : j = C := by omega
          subst hje
          have j1 : ¬ ((j : Int) < (j : Int)) := by omega
          obtain ⟨X3, hX3⟩ : ∃ X3, X2.drewN u = X3 := ⟨_, rfl⟩
          have hB3 : Below X2.heap.size X2 X3 := by rw [← hX3]; exact below_drewN (Below.refl _ _) u
          have S3 := Lib.hid (S2.out.next hB3)
          have HB3 := Lib.hid (HB2.out.below HB2.out.lt hB3)
          have l1 : X3.cell? ⟨wo.heap.size, 1, none⟩ = some (.int .i64 x.n) := HB3.out.cell 1
          rw [hX3]
          clear hj hjl hB3 hX3 S2 HB2 S1 HB1 HO HRV k2 HC HFL
          by_cases hh : HasN d1 x.n
          case neg =>
            have HSF := Lib.hid (safe_no p1 d1 X3 S3.out.both.dev x.n hh)
            rw [S3.out.D] at HSF
            have HR := Lib.hid S3.out
            by_cases hz : x.n < 0
            · clear hh
              go_wp2_with (first | (go_at_call 15; refine HSF.out.mono ?_; rintro e Z ⟨rfl, rfl⟩) | fail)
              go_roundw
              case rel => exact ⟨k + 1, p1, q1, d1, HK.out, by first | rfl | rw [wk], HR.out⟩
              case measure => exact meas_succ HK.out wk
            · have hz2 : (m : Int) ≤ x.n := by
                have := S3.out.len
                unfold HasN at hh
                omega
              clear hh
              go_wp2_with (first | (go_at_call 15; refine HSF.out.mono ?_; rintro e Z ⟨rfl, rfl⟩) | fail)
              go_roundw
              case rel => exact ⟨k + 1, p1, q1, d1, HK.out, by first | rfl | rw [wk], HR.out⟩
              case measure => exact meas_succ HK.out wk
          have HSF := Lib.hid (safe_yes p1 d1 X3 S3.out.both.dev x.n hh)
          rw [S3.out.D] at HSF
          have hz : ¬ (x.n < 0) := by have := hh.1; omega
          have hz2 : ¬ ((m : Int) ≤ x.n) := by have := S3.out.len; have := hh.2; omega
          have HH := Lib.hid hh
          have HSEC := Lib.hid (show Sec (d1.at x.n) from secs_get S3.out.both.dev.ok.secs (by have := hh.1; have := hh.2; omega))
          clear hh
          go_wp2_with (first | (go_at_call 15; refine HSF.out.mono ?_; rintro e X4 ⟨g, hg, rfl, hat, hB4⟩; have S4 := Lib.hid (S3.out.next hB4); have HB4 := Lib.hid (HB3.out.below HB3.out.lt hB4); have HAT := Lib.hid hat; have l2 : X4.cell? ⟨wo.heap.size, 1, none⟩ = some (.int .i64 x.n) := HB4.out.cell 1; clear hg hat hB4) | fail)
          obtain ⟨st, hst⟩ : ∃ st, strOfNums (d1.at x.n) = st := ⟨_, rfl⟩
          have HST := Lib.hid hst
          have hcv : ∀ Z, Below X4.heap.size X4 Z → (convert 32 9 (.slice (some ⟨g, 0, none⟩) 128 128)).run Try.prog Z = .ok (.string st) Z := fun Z hZ => by
            have h9 := conv_bys (bys_at (HAT.out.below HAT.out.lt hZ) HSEC.out.2 128)
            rw [HSEC.out.1, HST.out] at h9
            exact h9
          have HCV := Lib.hid hcv
          have HAN := Lib.hid (rat_any q1 d1 X4.drew (S4.out.both.grow (Below.refl _ _).drew).ref x.n HH.out)
          rw [S4.out.Q] at HAN
          clear hst hcv
          have qq : (fun Z : World => Z.cell? ⟨wo.heap.size, 1, none⟩ = some (.int .i64 x.n) ∧ (convert 32 9 (.slice (some ⟨g, 0, none⟩) 128 128)).run Try.prog Z = .ok (.string st) Z) X4.drew := ⟨l2, HCV.out _ (Below.refl _ _).drew⟩
          refine regionL (fun Z : World => Z.cell? ⟨wo.heap.size, 1, none⟩ = some (.int .i64 x.n) ∧ (convert 32 9 (.slice (some ⟨g, 0, none⟩) 128 128)).run Try.prog Z = .ok (.string st) Z) 11 (by kernel_rfl) ?_
          refine takeL (i := 0) (oi := { dst := some 119, op := Go.Op.move (Go.Operand.tmp 15), type := 25, pos := "law.go:113", after := #[], guard := none }) (v := .int .i64 0) [11, 10, 9, 8, 7, 6, 5, 4, 3, 2, 1] rfl (by kernel_rfl) (by kernel_rfl) (by kernel_rfl) (by kernel_rfl) (fun _ _ _ h => calm_panic h) rfl ?_ qq ?_
          · intro Z hZ; go_simp
          simp only [Act.put, List.setIfInBounds_toArray, List.set_cons_zero, List.set_cons_succ]
          refine takeL (i := 1) (oi := { dst := some 120, op := Go.Op.binOp Go.BinOp.neq 25 (Go.Operand.tmp 119) (Go.Operand.const (Go.Value.int Go.IntKind.i64 0)) 25, type := 4, pos := "law.go:113", after := #[{ on := 0, ground := Go.Ground.data }], guard := none }) (v := .bool false) [11, 10, 9, 8, 7, 6, 5, 4, 3, 2] rfl (by kernel_rfl) (by kernel_rfl) (by kernel_rfl) (by kernel_rfl) (fun _ _ _ h => calm_panic h) rfl ?_ qq ?_
          · intro Z hZ; go_simp
          simp only [Act.put, List.setIfInBounds_toArray, List.set_cons_zero, List.set_cons_succ]
          refine takeL (i := 2) (oi := { dst := some 121, op := Go.Op.move (Go.Operand.tmp 120), type := 4, pos := "law.go:113", after := #[{ on := 1, ground := Go.Ground.data }], guard := none }) (v := .bool false) [11, 10, 9, 8, 7, 6, 5, 4, 3] rfl (by kernel_rfl) (by kernel_rfl) (by kernel_rfl) (by kernel_rfl) (fun _ _ _ h => calm_panic h) rfl ?_ qq ?_
          · intro Z hZ; go_simp
          simp only [Act.put, List.setIfInBounds_toArray, List.set_cons_zero, List.set_cons_succ]
          refine takeY (i := 3) (oi := { dst := some 122, op := Go.Op.move (Go.Operand.tmp 14), type := 32, pos := "law.go:113", after := #[{ on := 2, ground := Go.Ground.guard }], guard := some (2, false) }) (v := .slice (some ⟨g, 0, none⟩) 128 128) [11, 10, 4] rfl (by kernel_rfl) (by kernel_rfl) (by kernel_rfl) (by kernel_rfl) (fun _ _ _ h => calm_panic h) (.inl ⟨rfl, ?_⟩) qq ?_
          · intro Z hZ; go_simp
          simp only [Act.put, List.setIfInBounds_toArray, List.set_cons_zero, List.set_cons_succ]
          refine takeY (i := 4) (oi := { dst := some 123, op := Go.Op.convert 32 9 (Go.Operand.tmp 122), type := 9, pos := "law.go:113", after := #[{ on := 3, ground := Go.Ground.data }, { on := 2, ground := Go.Ground.guard }], guard := some (2, false) }) (v := .string st) [11, 10] rfl (by kernel_rfl) (by kernel_rfl) (by kernel_rfl) (by kernel_rfl) (fun _ _ _ h => calm_panic h) (.inl ⟨rfl, ?_⟩) qq ?_
          · intro Z hZ; obtain ⟨z1, z2⟩ := hZ; go_simp
          simp only [Act.put, List.setIfInBounds_toArray, List.set_cons_zero, List.set_cons_succ]
          refine takeY (i := 5) (oi := { dst := some 124, op := Go.Op.move (Go.Operand.tmp 7), type := 28, pos := "law.go:113", after := #[{ on := 2, ground := Go.Ground.guard }], guard := some (2, false) }) (v := ptr Q) [11, 10, 9, 8] rfl (by kernel_rfl) (by kernel_rfl) (by kernel_rfl) (by kernel_rfl) (fun _ _ _ h => calm_panic h) (.inl ⟨rfl, ?_⟩) qq ?_
          · intro Z hZ; go_simp
          simp only [Act.put, List.setIfInBounds_toArray, List.set_cons_zero, List.set_cons_succ]
          refine takeY (i := 6) (oi := { dst := some 125, op := Go.Op.fieldAddr 36 (Go.Operand.tmp 11) 1, type := 0, pos := "law.go:113", after := #[{ on := 2, ground := Go.Ground.guard }], guard := some (2, false) }) (v := .pointer (some ⟨wo.heap.size, 1, none⟩)) [11, 10, 9, 8, 7] rfl (by kernel_rfl) (by kernel_rfl) (by kernel_rfl) (by kernel_rfl) (fun _ _ _ h => calm_panic h) (.inl ⟨rfl, ?_⟩) qq ?_
          · intro Z hZ; go_simp
          simp only [Act.put, List.setIfInBounds_toArray, List.set_cons_zero, List.set_cons_succ]
          refine takeY (i := 7) (oi := { dst := some 126, op := Go.Op.load 3 (Go.Operand.tmp 125), type := 3, pos := "law.go:113", after := #[{ on := 6, ground := Go.Ground.data }, { on := 2, ground := Go.Ground.guard }], guard := some (2, false) }) (v := .int .i64 x.n) [11, 10, 9, 8] rfl (by kernel_rfl) (by kernel_rfl) (by kernel_rfl) (by kernel_rfl) (fun _ _ _ h => calm_panic h) (.inl ⟨rfl, ?_⟩) qq ?_
          · intro Z hZ; obtain ⟨z1, z2⟩ := hZ; go_simp
          simp only [Act.put, List.setIfInBounds_toArray, List.set_cons_zero, List.set_cons_succ]
          refine oneW (i := 8) (o := { dst := some 127, op := Go.Op.call { callee := Go.Callee.value (Go.Operand.func 16), args := #[Go.Operand.tmp 124, Go.Operand.tmp 126], argTypes := #[28, 3] }, type := 32, pos := "law.go:113", after := #[{ on := 5, ground := Go.Ground.data }, { on := 7, ground := Go.Ground.data }, { on := 2, ground := Go.Ground.chain }, { on := 2, ground := Go.Ground.guard }], guard := some (2, false) }) rfl (by kernel_rfl) rfl ?_
          refine wp_by_call (f := 16) (args := #[ptr Q, .int .i64 x.n]) (by go_simp) (HAN.out.mono ?_)
          rintro e X5 ⟨v, rfl, hO5, hB5⟩
          have hB5' : Below X4.heap.size X4 X5 := (Below.refl _ X4).drew.trans hB5
          obtain ⟨va, vc, hv⟩ := hO5.form
          subst hv
          have hc5 := conv_bys (hO5.le (Nat.zero_le _)).bys
          rw [HST.out] at hc5
          have S5 := Lib.hid (S4.out.next hB5')
          have qq5 : (fun Z : World => Z.cell? ⟨wo.heap.size, 1, none⟩ = some (.int .i64 x.n) ∧ (convert 32 9 (.slice (some ⟨g, 0, none⟩) 128 128)).run Try.prog Z = .ok (.string st) Z) X5 := ⟨(HB4.out.below HB4.out.lt hB5').cell 1, HCV.out _ hB5'⟩
          rw [HSEC.out.1] at hc5 ⊢
          clear hO5 hB5 hB5' qq
          refine ⟨_, rfl, fun _ => qq5, ?_⟩
          simp only [Act.put, List.setIfInBounds_toArray, List.set_cons_zero, List.set_cons_succ]
          refine oneW (i := 9) (o := { dst := some 128, op := Go.Op.convert 32 9 (Go.Operand.tmp 127), type := 9, pos := "law.go:113", after := #[{ on := 8, ground := Go.Ground.data }, { on := 2, ground := Go.Ground.guard }], guard := some (2, false) }) rfl (by kernel_rfl) rfl ?_
          refine wp_by_run (w' := X5) (v := .string st) (by go_simp) ⟨fun _ => qq5, ?_⟩
          simp only [Act.put, List.setIfInBounds_toArray, List.set_cons_zero, List.set_cons_succ]
          refine takeY (i := 10) (oi := { dst := some 129, op := Go.Op.binOp Go.BinOp.neq 9 (Go.Operand.tmp 123) (Go.Operand.tmp 128) 9, type := 4, pos := "law.go:113", after := #[{ on := 4, ground := Go.Ground.data }, { on := 9, ground := Go.Ground.data }, { on := 2, ground := Go.Ground.guard }], guard := some (2, false) }) (v := .bool false) [11] rfl (by kernel_rfl) (by kernel_rfl) (by kernel_rfl) (by kernel_rfl) (fun _ _ _ h => calm_panic h) (.inl ⟨rfl, ?_⟩) qq5 ?_
          · intro Z hZ; have := beq_self_eq_true st.toList; go_simp
          simp only [Act.put, List.setIfInBounds_toArray, List.set_cons_zero, List.set_cons_succ]
          refine oneL (i := 11) (o := { dst := some 130, op := Go.Op.pick (Go.Operand.tmp 121) (Go.Operand.const (Go.Value.bool true)) (Go.Operand.tmp 129), type := 4, pos := "law.go:113", after := #[{ on := 2, ground := Go.Ground.data }, { on := 10, ground := Go.Ground.data }], guard := none }) rfl (by kernel_rfl) rfl ?_
          refine wp_by_run (w' := X5) (v := .bool false) (by go_simp) ⟨fun h => absurd rfl h, ?_⟩
          simp only [Act.put, List.setIfInBounds_toArray, List.set_cons_zero, List.set_cons_succ]
          refine doneL (by kernel_rfl) (Calm.normal ?_) _
          go_wp2
          go_roundw
          case rel => exact ⟨k + 1, p1, q1, d1, HK.out, by first | rfl | rw [wk], S5.out⟩
          case measure => exact meas_succ HK.out wk
    · have hke : k = len1 := by omega
      subst hke
      have i1 : ¬ ((k : Int) < (k : Int)) := by omega
      have HL := Lib.hid (len_any p d wr hS.both.dev)
      rw [hS.D, hS.len] at HL
      have HO1 := Lib.hid (calls_any po _ wr hS.old)
      have HO2 := Lib.hid (down_any po _ wr hS.old)
      have HO3 := Lib.hid (cached_any po _ wr hS.old)
      have HB := Lib.hid hS.below
      have HSZ := Lib.hid hS.both.size
      clear hS hlt hk
      go_wp2_with (first
        | (go_at_call 17; with_reducible refine HL.out.mono ?_; rintro e Z ⟨rfl, rfl⟩)
        | (go_at_call 13; with_reducible refine HO1.out.mono ?_; rintro e Z ⟨rfl, rfl⟩)
        | (go_at_call 12; with_reducible refine HO2.out.mono ?_; rintro e Z ⟨rfl, rfl⟩)
        | (go_at_call 14; (with_reducible refine HO3.out.mono ?_); rintro e X9 ⟨v, rfl, hO, hN, hB9⟩; obtain ⟨va, vc, hv⟩ := cached_form hO; subst hv; have HB9 := Lib.hid (HB.out.trans (hB9.mono HSZ.out)); clear hO hN hB9)
        | fail)
      go_ret
      exact ⟨by first | rfl | simp [Dv.new], HB9.out⟩
end Go.Proofs.Yteopbeafhhfdoaa
