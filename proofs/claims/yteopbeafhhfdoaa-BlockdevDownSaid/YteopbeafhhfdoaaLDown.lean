/- The statement BlockdevDown, walked. -/
import Derived.Test.YteopbeafhhfdoaaLDownM
set_option linter.unusedVariables false
set_option linter.unusedSimpArgs false
namespace Go.Proofs.Yteopbeafhhfdoaa
open Go.RowKit
set_option maxRecDepth 100000 in
set_option maxHeartbeats 8000000 in
theorem downW (a0 : Option Addr) (len0 cap0 : Nat) (L0 : Nat → Opn) (n : Int) (a2 : Option Addr) (len2 cap2 : Nat) (L2 : Nat → Opn) (w : World) (h0 : (len0 ≤ cap0 ∧ cap0 ≤ maxLen) ∧ OpsAt w.heap.size w a0 len0 L0) (hn : (Lit.int .u8 n).wf = true) (h2 : (len2 ≤ cap2 ∧ cap2 ≤ maxLen) ∧ OpsAt w.heap.size w a2 len2 L2) :
    Calls Try.prog 6 #[.slice a0 len0 cap0, .int .u8 n, .slice a2 len2 cap2] w fun e w' => e = .returned (.bool true) ∧ Below w.heap.size w w' := by
  have hnb := bounds_u8 hn
  have HA := Lib.hid (And.intro h0.2 h2.2)
  clear h0 h2 hn
  go_enter Try.func6, Try.ntmps6
  go_wp2_with fail
  refine (Al.alive_any _).mono ?_
  rintro e w1 ⟨rfl, hB⟩
  have HB1 := Lib.hid hB
  have H0 := Lib.hid (HA.out.1.next hB)
  have H2 := Lib.hid (HA.out.2.next hB)
  clear hB
  by_cases g0 : GreatIs len0 L0
  case neg =>
    have C0 := Lib.hid (great_no (cap := cap0) H0.out g0)
    have C2 := Lib.hid (great_any w.heap.size a2 len2 cap2 L2 w1 H2.out)
    clear g0 hnb
    go_wp2_with (first | (go_at_call 7; with_reducible refine C0.out.mono ?_; rintro e w' ⟨rfl, rfl⟩) | (go_at_call 7; with_reducible refine C2.out.mono ?_; rintro e w' ⟨rfl, rfl⟩))
    go_ret
    exact ⟨rfl, HB1.out⟩
  have C0 := Lib.hid (great_yes (cap := cap0) H0.out g0)
  by_cases g2 : GreatIs len2 L2
  case neg =>
    have C2 := Lib.hid (great_no (cap := cap2) H2.out g2)
    clear g0 g2 hnb
    go_wp2_with (first | (go_at_call 7; with_reducible refine C0.out.mono ?_; rintro e w' ⟨rfl, rfl⟩) | (go_at_call 7; with_reducible refine C2.out.mono ?_; rintro e w' ⟨rfl, rfl⟩))
    go_ret
    exact ⟨rfl, HB1.out⟩
  have C2 := Lib.hid (great_yes (cap := cap2) H2.out g2)
  by_cases l0 : len0 ≤ 100
  case neg =>
    have i0 : (100 : Int) < (len0 : Int) := by omega
    clear g0 g2 hnb l0
    go_wp2_with (first | (go_at_call 7; with_reducible refine C0.out.mono ?_; rintro e w' ⟨rfl, rfl⟩) | (go_at_call 7; with_reducible refine C2.out.mono ?_; rintro e w' ⟨rfl, rfl⟩))
    go_ret
    exact ⟨rfl, HB1.out⟩
  have i0 : ¬ ((100 : Int) < (len0 : Int)) := by omega
  by_cases l2 : len2 ≤ 50
  case neg =>
    have i2 : (50 : Int) < (len2 : Int) := by omega
    clear g0 g2 hnb l0 l2
    go_wp2_with (first | (go_at_call 7; with_reducible refine C0.out.mono ?_; rintro e w' ⟨rfl, rfl⟩) | (go_at_call 7; with_reducible refine C2.out.mono ?_; rintro e w' ⟨rfl, rfl⟩))
    go_ret
    exact ⟨rfl, HB1.out⟩
  have i2 : ¬ ((50 : Int) < (len2 : Int)) := by omega
  by_cases n0 : n = 0
  case pos =>
    have e0 : (n == 0) = true := by simpa using n0
    clear g0 g2 hnb l0 l2 n0
    go_wp2_with (first | (go_at_call 7; with_reducible refine C0.out.mono ?_; rintro e w' ⟨rfl, rfl⟩) | (go_at_call 7; with_reducible refine C2.out.mono ?_; rintro e w' ⟨rfl, rfl⟩))
    go_ret
    exact ⟨rfl, HB1.out⟩
  have e0 : (n == 0) = false := by simpa using n0
  have HG := Lib.hid (And.intro g0 (And.intro g2 (And.intro l0 l2)))
  have HN := Lib.hid (show 0 < n ∧ n < 256 by omega)
  have wn : wrap64 n = n := wrap64_id (by omega) (by omega)
  clear g0 g2 l0 l2 n0 hnb
  go_wp2_with (first | (go_at_call 7; with_reducible refine C0.out.mono ?_; rintro e w' ⟨rfl, rfl⟩) | (go_at_call 7; with_reducible refine C2.out.mono ?_; rintro e w' ⟨rfl, rfl⟩) | fail)
  refine (new_yes 8 (by decide) (by decide) w1).mono ?_
  rintro e W0 ⟨p0, rfl, hd, hf, hB⟩
  have S0 := Lib.hid (show DevSt w.heap.size w p0.D W0 p0 (Dv.new 8) from ⟨hd, fun k hk => Nat.le_trans HB1.out.size (hf k hk), HB1.out.trans (hB.mono HB1.out.size), rfl, Nat.le_trans HB1.out.size hB.size⟩)
  obtain ⟨D, hD⟩ : ∃ D, p0.D = D := ⟨_, rfl⟩
  rw [hD] at S0 ⊢
  clear hd hf hB hD C0 C2 H0 H2 i0 i2 e0
  go_wp2_with fail
  refine wp_loop (fun a' w' => ∃ l : List Value, a' = ⟨l.toArray, []⟩ ∧ l.length = 191 ∧ (l.getD 0 undef = .slice a0 len0 cap0 ∧ l.getD 1 undef = .int .u8 n ∧ l.getD 2 undef = .slice a2 len2 cap2 ∧ l.getD 7 undef = .bool true ∧ l.getD 8 undef = ptr D ∧ l.getD 56 undef = .int .i64 (len0 : Int)) ∧ ∃ i : Value, l.getD 57 undef = i ∧ (∃ (k : Nat) (q : Pl) (d : Dv), k ≤ len0 ∧ i = .int .i64 k ∧ DevSt w.heap.size w D w' q d ∧ UpD d k)) (fun a' w' => len0 - (intOf (a'.tmps.getD 57 undef)).toNat) ?_ ?_
  · refine ⟨_, rfl, rfl, ⟨rfl, rfl, rfl, rfl, rfl, rfl⟩, _, rfl, ?_⟩
    exact ⟨0, p0, Dv.new 8, Nat.zero_le _, rfl, S0.out, rfl, rfl, rfl, Int.le_refl _⟩
  · rintro _ wr ⟨l, rfl, hl, ⟨g0, g1, g2, g7, g8, g56⟩, i, v57, k, q, d, hk, hki, hS, hU⟩
    obtain ⟨u, hu, hv⟩ : ∃ u : Nat → Value, (∀ i, l.getD i undef = u i) ∧ l = (List.range 191).map u := ⟨_, fun _ => rfl, frame_of hl⟩
    rw [hu] at g0 g1 g2 g7 g8 g56 v57
    rw [hv, show (List.range 191).map u = [u 0, u 1, u 2, u 3, u 4, u 5, u 6, u 7, u 8, u 9, u 10, u 11, u 12, u 13, u 14, u 15, u 16, u 17, u 18, u 19, u 20, u 21, u 22, u 23, u 24, u 25, u 26, u 27, u 28, u 29, u 30, u 31, u 32, u 33, u 34, u 35, u 36, u 37, u 38, u 39, u 40, u 41, u 42, u 43, u 44, u 45, u 46, u 47, u 48, u 49, u 50, u 51, u 52, u 53, u 54, u 55, u 56, u 57, u 58, u 59, u 60, u 61, u 62, u 63, u 64, u 65, u 66, u 67, u 68, u 69, u 70, u 71, u 72, u 73, u 74, u 75, u 76, u 77, u 78, u 79, u 80, u 81, u 82, u 83, u 84, u 85, u 86, u 87, u 88, u 89, u 90, u 91, u 92, u 93, u 94, u 95, u 96, u 97, u 98, u 99, u 100, u 101, u 102, u 103, u 104, u 105, u 106, u 107, u 108, u 109, u 110, u 111, u 112, u 113, u 114, u 115, u 116, u 117, u 118, u 119, u 120, u 121, u 122, u 123, u 124, u 125, u 126, u 127, u 128, u 129, u 130, u 131, u 132, u 133, u 134, u 135, u 136, u 137, u 138, u 139, u 140, u 141, u 142, u 143, u 144, u 145, u 146, u 147, u 148, u 149, u 150, u 151, u 152, u 153, u 154, u 155, u 156, u 157, u 158, u 159, u 160, u 161, u 162, u 163, u 164, u 165, u 166, u 167, u 168, u 169, u 170, u 171, u 172, u 173, u 174, u 175, u 176, u 177, u 178, u 179, u 180, u 181, u 182, u 183, u 184, u 185, u 186, u 187, u 188, u 189, u 190] from rfl]
    rw [g0, g1, g2, g7, g8, g56, v57]
    clear hu hv hl g0 g1 g2 g7 g8 g56 v57 l
    rw [hki]
    clear hki i S0
    by_cases hlt : k < len0
    case pos =>
      have i1 : (k : Int) < len0 := by omega
      have in0 : (0 : Int) ≤ (k : Int) := by omega
      have wk : wrap64 ((k : Int) + 1) = ((k + 1 : Nat) : Int) := by have := HG.out.2.2.1; unfold wrap64; omega
      obtain ⟨b, o, hao, hop⟩ := HA.out.1.op hlt
      have LE300 := Lib.hid (HG.out.1.2 k hlt).2
      obtain ⟨x, hx⟩ : ∃ x, L0 k = x := ⟨_, rfl⟩
      rw [hx] at hop LE300
      rw [hao]
      have HAO := Lib.hid hao
      have OK := Lib.hid hop
      have BW := Lib.hid hS.below
      have S := Lib.hid hS
      have CA := Lib.hid (show d.calls < 4611686018427387904 by have := hU.calls; have := HG.out.2.2.1; omega)
      have HK := Lib.hid hlt
      have HU := Lib.hid (hU.write hS.dev.ok x.n (bytesL x))
      clear hop hS hU hlt hk hx hao
      go_wp2_with fail
      refine regionL (fun Z : World => Below w.heap.size w Z) 11 (by kernel_rfl) ?_
      have q1 : (fun Z : World => Below w.heap.size w Z) wr.drew := BW.out.drew
      refine takeL (i := 0) (oi := { dst := some 60, op := Go.Op.move (Go.Operand.tmp 8), type := 24, pos := "outright.go:136", after := #[], guard := none }) (v := ptr D) [11] rfl (by kernel_rfl) (by kernel_rfl) (by kernel_rfl) (by kernel_rfl) (fun _ _ _ h => calm_panic h) rfl ?_ q1 ?_
      · intro Z hZ; go_simp
      simp only [Act.put, List.setIfInBounds_toArray, List.set_cons_zero, List.set_cons_succ]
      refine takeL (i := 1) (oi := { dst := some 61, op := Go.Op.move (Go.Operand.tmp 0), type := 22, pos := "outright.go:136", after := #[], guard := none }) (v := .slice (some ⟨b, o, none⟩) len0 cap0) [11, 5, 4, 3] rfl (by kernel_rfl) (by kernel_rfl) (by kernel_rfl) (by kernel_rfl) (fun _ _ _ h => calm_panic h) rfl ?_ q1 ?_
      · intro Z hZ; go_simp
      simp only [Act.put, List.setIfInBounds_toArray, List.set_cons_zero, List.set_cons_succ]
      refine takeL (i := 2) (oi := { dst := some 62, op := Go.Op.move (Go.Operand.tmp 10), type := 3, pos := "outright.go:136", after := #[], guard := none }) (v := .int .i64 (k : Int)) [11, 5, 4, 3] rfl (by kernel_rfl) (by kernel_rfl) (by kernel_rfl) (by kernel_rfl) (fun _ _ _ h => calm_panic h) rfl ?_ q1 ?_
      · intro Z hZ; go_simp
      simp only [Act.put, List.setIfInBounds_toArray, List.set_cons_zero, List.set_cons_succ]
      refine takeL (i := 3) (oi := { dst := some 63, op := Go.Op.indexAddr 22 (Go.Operand.tmp 61) (Go.Operand.tmp 62), type := 0, pos := "outright.go:136", after := #[{ on := 1, ground := Go.Ground.data }, { on := 2, ground := Go.Ground.data }], guard := none }) (v := .pointer (some ⟨b, o + k * 7, none⟩)) [11, 5, 4] rfl (by kernel_rfl) (by kernel_rfl) (by kernel_rfl) (by kernel_rfl) (fun _ _ _ h => calm_panic h) rfl ?_ q1 ?_
      · intro Z hZ; go_simp
      simp only [Act.put, List.setIfInBounds_toArray, List.set_cons_zero, List.set_cons_succ]
      refine takeL (i := 4) (oi := { dst := some 64, op := Go.Op.fieldAddr 36 (Go.Operand.tmp 63) 1, type := 0, pos := "outright.go:136", after := #[{ on := 3, ground := Go.Ground.data }], guard := none }) (v := .pointer (some ⟨b, o + k * 7 + 1, none⟩)) [11, 5] rfl (by kernel_rfl) (by kernel_rfl) (by kernel_rfl) (by kernel_rfl) (fun _ _ _ h => calm_panic h) rfl ?_ q1 ?_
      · intro Z hZ; go_simp
      simp only [Act.put, List.setIfInBounds_toArray, List.set_cons_zero, List.set_cons_succ]
      refine takeL (i := 5) (oi := { dst := some 65, op := Go.Op.load 3 (Go.Operand.tmp 64), type := 3, pos := "outright.go:136", after := #[{ on := 4, ground := Go.Ground.data }], guard := none }) (v := .int .i64 x.n) [11] rfl (by kernel_rfl) (by kernel_rfl) (by kernel_rfl) (by kernel_rfl) (fun _ _ _ h => calm_panic h) rfl ?_ q1 ?_
      · intro Z hZ; have c := OK.out.n Z hZ; go_simp
      simp only [Act.put, List.setIfInBounds_toArray, List.set_cons_zero, List.set_cons_succ]
      refine takeL (i := 6) (oi := { dst := some 66, op := Go.Op.move (Go.Operand.tmp 0), type := 22, pos := "outright.go:136", after := #[], guard := none }) (v := .slice (some ⟨b, o, none⟩) len0 cap0) [11, 10, 9, 8] rfl (by kernel_rfl) (by kernel_rfl) (by kernel_rfl) (by kernel_rfl) (fun _ _ _ h => calm_panic h) rfl ?_ q1 ?_
      · intro Z hZ; go_simp
      simp only [Act.put, List.setIfInBounds_toArray, List.set_cons_zero, List.set_cons_succ]
      refine takeL (i := 7) (oi := { dst := some 67, op := Go.Op.move (Go.Operand.tmp 10), type := 3, pos := "outright.go:136", after := #[], guard := none }) (v := .int .i64 (k : Int)) [11, 10, 9, 8] rfl (by kernel_rfl) (by kernel_rfl) (by kernel_rfl) (by kernel_rfl) (fun _ _ _ h => calm_panic h) rfl ?_ q1 ?_
      · intro Z hZ; go_simp
      simp only [Act.put, List.setIfInBounds_toArray, List.set_cons_zero, List.set_cons_succ]
      refine takeL (i := 8) (oi := { dst := some 68, op := Go.Op.indexAddr 22 (Go.Operand.tmp 66) (Go.Operand.tmp 67), type := 0, pos := "outright.go:136", after := #[{ on := 6, ground := Go.Ground.data }, { on := 7, ground := Go.Ground.data }], guard := none }) (v := .pointer (some ⟨b, o + k * 7, none⟩)) [11, 10, 9] rfl (by kernel_rfl) (by kernel_rfl) (by kernel_rfl) (by kernel_rfl) (fun _ _ _ h => calm_panic h) rfl ?_ q1 ?_
      · intro Z hZ; go_simp
      simp only [Act.put, List.setIfInBounds_toArray, List.set_cons_zero, List.set_cons_succ]
      refine takeL (i := 9) (oi := { dst := some 69, op := Go.Op.load 36 (Go.Operand.tmp 68), type := 36, pos := "outright.go:136", after := #[{ on := 8, ground := Go.Ground.data }], guard := none }) (v := .agg (opC x)) [11, 10] rfl (by kernel_rfl) (by kernel_rfl) (by kernel_rfl) (by kernel_rfl) (fun _ _ _ h => calm_panic h) rfl ?_ q1 ?_
      · exact fun Z hZ => exec_load rfl rfl (OK.out.load Z hZ)
      simp only [Act.put, List.setIfInBounds_toArray, List.set_cons_zero, List.set_cons_succ]
      refine oneL (i := 10) (o := { dst := some 70, op := Go.Op.call { callee := Go.Callee.value (Go.Operand.func 27), args := #[Go.Operand.tmp 69], argTypes := #[36] }, type := 32, pos := "outright.go:136", after := #[{ on := 9, ground := Go.Ground.data }], guard := none }) rfl (by kernel_rfl) rfl ?_
      refine wp_by_call (f := 27) (args := #[.agg (opC x)]) (by go_simp) ((bytes_any x OK.out.is LE300.out wr.drew).mono ?_)
      rintro e Z1 ⟨g, hg, hlt, rfl, hP, hB⟩
      have hS1 := (S.out.next (Below.refl _ _).drew).next hB
      have hrow := RowF.new (S.out.next (Below.refl _ _).drew).dev hg hlt hP
      refine ⟨_, rfl, fun _ => hS1.below, ?_⟩
      simp only [Act.put, List.setIfInBounds_toArray, List.set_cons_zero, List.set_cons_succ]
      refine oneL (i := 11) (o := { dst := some 71, op := Go.Op.call { callee := Go.Callee.value (Go.Operand.func 19), args := #[Go.Operand.tmp 60, Go.Operand.tmp 65, Go.Operand.tmp 70], argTypes := #[24, 3, 32] }, type := 25, pos := "outright.go:136", after := #[{ on := 0, ground := Go.Ground.data }, { on := 5, ground := Go.Ground.data }, { on := 10, ground := Go.Ground.data }, { on := 10, ground := Go.Ground.chain }], guard := none }) rfl (by kernel_rfl) rfl ?_
      have hW := write_any q d Z1 hS1.dev CA.out x.n (some ⟨g, 0, none⟩) (bytesN x) (bytesN x) (bytesL x) (row_bys hrow) (hrow.apart _ _)
      rw [hS1.D] at hW
      refine wp_by_call (f := 19) (args := #[ptr D, .int .i64 x.n, .slice (some ⟨g, 0, none⟩) (bytesN x) (bytesN x)]) (by go_simp) (hW.mono ?_)
      clear hW
      rintro e Z2 ⟨rfl, q2, hd2, hS2⟩
      have hS3 := hS1.step hd2 hS2
      refine ⟨_, rfl, fun h => absurd rfl h, ?_⟩
      simp only [Act.put, List.setIfInBounds_toArray, List.set_cons_zero, List.set_cons_succ]
      have S3 := Lib.hid hS3
      clear hS3 hS1 hrow hd2 hS2 hB hP hlt hg q1
      refine doneL (by kernel_rfl) (Calm.normal ?_) _
      go_wp2
      refine ⟨⟨_, rfl, rfl, ⟨rfl, rfl, rfl, rfl, rfl, rfl⟩, _, rfl, ?rel⟩, ?measure⟩
      case rel => exact ⟨k + 1, q2, _, HK.out, by first | rfl | (show Value.int .i64 (wrap64 ((k : Int) + 1)) = _; rw [wk]), S3.out, HU.out⟩
      case measure =>
        have hk2 := HK.out
        first
          | (show len0 - (intOf (.int .i64 (wrap64 ((k : Int) + 1)))).toNat < len0 - (intOf (.int .i64 (k : Int))).toNat; rw [wk])
          | (show len0 - (intOf (.int .i64 ((k + 1 : Nat) : Int))).toNat < len0 - (intOf (.int .i64 (k : Int))).toNat)
          | (show len0 - (intOf (.int .i64 ((k : Int) + 1))).toNat < len0 - (intOf (.int .i64 (k : Int))).toNat)
        first
          | (show len0 - ((k + 1 : Nat) : Int).toNat < len0 - ((k : Nat) : Int).toNat; omega)
          | (show len0 - ((k : Int) + 1).toNat < len0 - ((k : Nat) : Int).toNat; omega)
    have hke : k = len0 := by omega
    subst hke
    have i1 : ¬ ((k : Int) < k) := by omega
    have hcall : d.calls < 4611686018427387904 := by have := hU.calls; have := HG.out.2.2.1; omega
    obtain ⟨hfe, hfu, hfc⟩ := hU.flush hS.dev.ok
    have hF := flush_any q d wr hS.dev hcall
    rw [hS.D, hfe] at hF
    have S := Lib.hid hS
    have HF := Lib.hid hF
    have HFU := Lib.hid hfu
    clear hS hU hlt hk hcall hfe hfu hfc hF
    go_wp2_with fail
    refine HF.out.mono ?_
    rintro e W1 ⟨rfl, q1, hd, hS⟩
    have S1 := Lib.hid (S.out.step hd hS)
    clear hd hS HF S
    obtain ⟨d1, hd1⟩ : ∃ d1, d.flush = d1 := ⟨_, rfl⟩
    rw [hd1] at S1 HFU
    clear hd1
    have hC := calls_any q1 d1 W1 S1.out.dev
    rw [S1.out.D] at hC
    have HC := Lib.hid hC
    have HP1 := Lib.hid (PlD.plan HFU.out HN.out.1)
    have hP := plan_any q1 d1 W1 S1.out.dev n (by have := HN.out; omega)
    rw [S1.out.D, HP1.out.1] at hP
    have HP := Lib.hid hP
    clear hC hP
    obtain ⟨C, hCC⟩ : ∃ C, d1.calls = C := ⟨_, rfl⟩
    have HCB := Lib.hid (show 0 ≤ C ∧ C ≤ 1000 by have := HFU.out.calls; have := S1.out.dev.ok.calls; have := HG.out.2.2.1; omega)
    rw [hCC] at HC HP1
    clear hCC
    go_wp2_with (first | (go_at_call 13; refine HC.out.mono ?_; rintro e w' ⟨rfl, rfl⟩) | fail)
    refine HP.out.mono ?_
    rintro e W2 ⟨rfl, q2, hd, hS⟩
    have S2 := Lib.hid (S1.out.step hd hS)
    have HPL := Lib.hid (show PlD C n (d1.plan n) 1000 from ⟨HP1.out.2.frm, HP1.out.2.num, HP1.out.2.len, HP1.out.2.at_, HP1.out.2.ahead, by have := HP1.out.2.calls; have := HG.out.2.2.1; omega⟩)
    clear hd hS HP HP1 HC S1 HFU
    obtain ⟨d2, hd2⟩ : ∃ d2, d1.plan n = d2 := ⟨_, rfl⟩
    rw [hd2] at S2 HPL
    clear hd2
    go_wp2_with fail
    refine wp_loop (fun a' w' => ∃ l : List Value, a' = ⟨l.toArray, []⟩ ∧ l.length = 191 ∧ (l.getD 0 undef = .slice a0 k cap0 ∧ l.getD 1 undef = .int .u8 n ∧ l.getD 2 undef = .slice a2 len2 cap2 ∧ l.getD 7 undef = .bool true ∧ l.getD 8 undef = ptr D ∧ l.getD 11 undef = .int .i64 C ∧ l.getD 82 undef = .int .i64 (len2 : Int)) ∧ ∃ i : Value, l.getD 83 undef = i ∧ (∃ (k : Nat) (q : Pl) (d : Dv), k ≤ len2 ∧ i = .int .i64 k ∧ DevSt w.heap.size w D w' q d ∧ PlD C n d (1000 + k))) (fun a' w' => len2 - (intOf (a'.tmps.getD 83 undef)).toNat) ?_ ?_
    · refine ⟨_, rfl, rfl, ⟨rfl, rfl, rfl, rfl, rfl, rfl, rfl⟩, _, rfl, ?_⟩
      exact ⟨0, q2, d2, Nat.zero_le _, rfl, S2.out, HPL.out⟩
    clear HPL S2
    · rintro _ wr ⟨l, rfl, hl, ⟨g0, g1, g2, g7, g8, g11, g82⟩, i, v83, j, q, d, hk, hki, hS, hU⟩
      obtain ⟨u, hu, hv⟩ : ∃ u : Nat → Value, (∀ i, l.getD i undef = u i) ∧ l = (List.range 191).map u := ⟨_, fun _ => rfl, frame_of hl⟩
      rw [hu] at g0 g1 g2 g7 g8 g11 g82 v83
      rw [hv, show (List.range 191).map u = [u 0, u 1, u 2, u 3, u 4, u 5, u 6, u 7, u 8, u 9, u 10, u 11, u 12, u 13, u 14, u 15, u 16, u 17, u 18, u 19, u 20, u 21, u 22, u 23, u 24, u 25, u 26, u 27, u 28, u 29, u 30, u 31, u 32, u 33, u 34, u 35, u 36, u 37, u 38, u 39, u 40, u 41, u 42, u 43, u 44, u 45, u 46, u 47, u 48, u 49, u 50, u 51, u 52, u 53, u 54, u 55, u 56, u 57, u 58, u 59, u 60, u 61, u 62, u 63, u 64, u 65, u 66, u 67, u 68, u 69, u 70, u 71, u 72, u 73, u 74, u 75, u 76, u 77, u 78, u 79, u 80, u 81, u 82, u 83, u 84, u 85, u 86, u 87, u 88, u 89, u 90, u 91, u 92, u 93, u 94, u 95, u 96, u 97, u 98, u 99, u 100, u 101, u 102, u 103, u 104, u 105, u 106, u 107, u 108, u 109, u 110, u 111, u 112, u 113, u 114, u 115, u 116, u 117, u 118, u 119, u 120, u 121, u 122, u 123, u 124, u 125, u 126, u 127, u 128, u 129, u 130, u 131, u 132, u 133, u 134, u 135, u 136, u 137, u 138, u 139, u 140, u 141, u 142, u 143, u 144, u 145, u 146, u 147, u 148, u 149, u 150, u 151, u 152, u 153, u 154, u 155, u 156, u 157, u 158, u 159, u 160, u 161, u 162, u 163, u 164, u 165, u 166, u 167, u 168, u 169, u 170, u 171, u 172, u 173, u 174, u 175, u 176, u 177, u 178, u 179, u 180, u 181, u 182, u 183, u 184, u 185, u 186, u 187, u 188, u 189, u 190] from rfl]
      rw [g0, g1, g2, g7, g8, g11, g82, v83]
      clear hu hv hl g0 g1 g2 g7 g8 g11 g82 v83 l
      rw [hki]
      clear hki i
      obtain ⟨kk, hkk⟩ : ∃ kk, kk = k := ⟨_, rfl⟩
      obtain ⟨k, hjk⟩ : ∃ k, j = k := ⟨_, rfl⟩
      rw [hjk] at hk hU ⊢
      clear hjk j
      have HCN := Lib.hid (show wrap64 (C + n) = C + n by have := HCB.out; have := HN.out; unfold wrap64; omega)
      by_cases hlt : k < len2
      case pos =>
        have i1 : (k : Int) < len2 := by omega
        have in0 : (0 : Int) ≤ (k : Int) := by omega
        have wk : wrap64 ((k : Int) + 1) = ((k + 1 : Nat) : Int) := by have := HG.out.2.2.2; unfold wrap64; omega
        obtain ⟨b, o, hao, hop⟩ := HA.out.2.op hlt
        have LE300 := Lib.hid (HG.out.2.1.2 k hlt).2
        obtain ⟨x, hx⟩ : ∃ x, L2 k = x := ⟨_, rfl⟩
        rw [hx] at hop LE300
        rw [hao]
        have HAO := Lib.hid hao
        have OK := Lib.hid hop
        have BW := Lib.hid hS.below
        have S := Lib.hid hS
        have CA := Lib.hid (show d.calls < 4611686018427387904 by have := hU.calls; have := HG.out.2.2.2; omega)
        have HK := Lib.hid hlt
        obtain ⟨hUW, hUE⟩ := hU.write x.n (bytesL x)
        have HU := Lib.hid hUW
        have hD := down_any q d wr hS.dev
        rw [hS.D] at hD
        have HD := Lib.hid hD
        have HE := Lib.hid (And.intro hUE (show d.down = true → writeE d x.n (bytesL x).length = 120 from fun q => (write_down q _ [] _).1))
        clear hop hS hU hlt hk hx hao hUW hUE hD
        go_wp2_with (refine HD.out.mono ?_; rintro e w' ⟨rfl, rfl⟩)
        refine regionL (fun Z : World => Below w.heap.size w Z) 12 (by kernel_rfl) ?_
        have q1 : (fun Z : World => Below w.heap.size w Z) wr.drew := BW.out.drew
        refine takeL (i := 0) (oi := { dst := some 88, op := Go.Op.move (Go.Operand.tmp 8), type := 24, pos := "outright.go:143", after := #[], guard := none }) (v := ptr D) [12, 11] rfl (by kernel_rfl) (by kernel_rfl) (by kernel_rfl) (by kernel_rfl) (fun _ _ _ h => calm_panic h) rfl ?_ q1 ?_
        · intro Z hZ; go_simp
        simp only [Act.put, List.setIfInBounds_toArray, List.set_cons_zero, List.set_cons_succ]
        refine takeL (i := 1) (oi := { dst := some 89, op := Go.Op.move (Go.Operand.tmp 2), type := 22, pos := "outright.go:143", after := #[], guard := none }) (v := .slice (some ⟨b, o, none⟩) len2 cap2) [12, 11, 5, 4, 3] rfl (by kernel_rfl) (by kernel_rfl) (by kernel_rfl) (by kernel_rfl) (fun _ _ _ h => calm_panic h) rfl ?_ q1 ?_
        · intro Z hZ; go_simp
        simp only [Act.put, List.setIfInBounds_toArray, List.set_cons_zero, List.set_cons_succ]
        refine takeL (i := 2) (oi := { dst := some 90, op := Go.Op.move (Go.Operand.tmp 12), type := 3, pos := "outright.go:143", after := #[], guard := none }) (v := .int .i64 (k : Int)) [12, 11, 5, 4, 3] rfl (by kernel_rfl) (by kernel_rfl) (by kernel_rfl) (by kernel_rfl) (fun _ _ _ h => calm_panic h) rfl ?_ q1 ?_
        · intro Z hZ; go_simp
        simp only [Act.put, List.setIfInBounds_toArray, List.set_cons_zero, List.set_cons_succ]
        refine takeL (i := 3) (oi := { dst := some 91, op := Go.Op.indexAddr 22 (Go.Operand.tmp 89) (Go.Operand.tmp 90), type := 0, pos := "outright.go:143", after := #[{ on := 1, ground := Go.Ground.data }, { on := 2, ground := Go.Ground.data }], guard := none }) (v := .pointer (some ⟨b, o + k * 7, none⟩)) [12, 11, 5, 4] rfl (by kernel_rfl) (by kernel_rfl) (by kernel_rfl) (by kernel_rfl) (fun _ _ _ h => calm_panic h) rfl ?_ q1 ?_
        · intro Z hZ; go_simp
        simp only [Act.put, List.setIfInBounds_toArray, List.set_cons_zero, List.set_cons_succ]
        refine takeL (i := 4) (oi := { dst := some 92, op := Go.Op.fieldAddr 36 (Go.Operand.tmp 91) 1, type := 0, pos := "outright.go:143", after := #[{ on := 3, ground := Go.Ground.data }], guard := none }) (v := .pointer (some ⟨b, o + k * 7 + 1, none⟩)) [12, 11, 5] rfl (by kernel_rfl) (by kernel_rfl) (by kernel_rfl) (by kernel_rfl) (fun _ _ _ h => calm_panic h) rfl ?_ q1 ?_
        · intro Z hZ; go_simp
        simp only [Act.put, List.setIfInBounds_toArray, List.set_cons_zero, List.set_cons_succ]
        refine takeL (i := 5) (oi := { dst := some 93, op := Go.Op.load 3 (Go.Operand.tmp 92), type := 3, pos := "outright.go:143", after := #[{ on := 4, ground := Go.Ground.data }], guard := none }) (v := .int .i64 x.n) [12, 11] rfl (by kernel_rfl) (by kernel_rfl) (by kernel_rfl) (by kernel_rfl) (fun _ _ _ h => calm_panic h) rfl ?_ q1 ?_
        · intro Z hZ; have c := OK.out.n Z hZ; go_simp
        simp only [Act.put, List.setIfInBounds_toArray, List.set_cons_zero, List.set_cons_succ]
        refine takeL (i := 6) (oi := { dst := some 94, op := Go.Op.move (Go.Operand.tmp 2), type := 22, pos := "outright.go:143", after := #[], guard := none }) (v := .slice (some ⟨b, o, none⟩) len2 cap2) [12, 11, 10, 9, 8] rfl (by kernel_rfl) (by kernel_rfl) (by kernel_rfl) (by kernel_rfl) (fun _ _ _ h => calm_panic h) rfl ?_ q1 ?_
        · intro Z hZ; go_simp
        simp only [Act.put, List.setIfInBounds_toArray, List.set_cons_zero, List.set_cons_succ]
        refine takeL (i := 7) (oi := { dst := some 95, op := Go.Op.move (Go.Operand.tmp 12), type := 3, pos := "outright.go:143", after := #[], guard := none }) (v := .int .i64 (k : Int)) [12, 11, 10, 9, 8] rfl (by kernel_rfl) (by kernel_rfl) (by kernel_rfl) (by kernel_rfl) (fun _ _ _ h => calm_panic h) rfl ?_ q1 ?_
        · intro Z hZ; go_simp
        simp only [Act.put, List.setIfInBounds_toArray, List.set_cons_zero, List.set_cons_succ]
        refine takeL (i := 8) (oi := { dst := some 96, op := Go.Op.indexAddr 22 (Go.Operand.tmp 94) (Go.Operand.tmp 95), type := 0, pos := "outright.go:143", after := #[{ on := 6, ground := Go.Ground.data }, { on := 7, ground := Go.Ground.data }], guard := none }) (v := .pointer (some ⟨b, o + k * 7, none⟩)) [12, 11, 10, 9] rfl (by kernel_rfl) (by kernel_rfl) (by kernel_rfl) (by kernel_rfl) (fun _ _ _ h => calm_panic h) rfl ?_ q1 ?_
        · intro Z hZ; go_simp
        simp only [Act.put, List.setIfInBounds_toArray, List.set_cons_zero, List.set_cons_succ]
        refine takeL (i := 9) (oi := { dst := some 97, op := Go.Op.load 36 (Go.Operand.tmp 96), type := 36, pos := "outright.go:143", after := #[{ on := 8, ground := Go.Ground.data }], guard := none }) (v := .agg (opC x)) [12, 11, 10] rfl (by kernel_rfl) (by kernel_rfl) (by kernel_rfl) (by kernel_rfl) (fun _ _ _ h => calm_panic h) rfl ?_ q1 ?_
        · exact fun Z hZ => exec_load rfl rfl (OK.out.load Z hZ)
        simp only [Act.put, List.setIfInBounds_toArray, List.set_cons_zero, List.set_cons_succ]
        refine oneL (i := 10) (o := { dst := some 98, op := Go.Op.call { callee := Go.Callee.value (Go.Operand.func 27), args := #[Go.Operand.tmp 97], argTypes := #[36] }, type := 32, pos := "outright.go:143", after := #[{ on := 9, ground := Go.Ground.data }], guard := none }) rfl (by kernel_rfl) rfl ?_
        refine wp_by_call (f := 27) (args := #[.agg (opC x)]) (by go_simp) ((bytes_any x OK.out.is LE300.out wr.drew).mono ?_)
        rintro e Z1 ⟨g, hg, hlt, rfl, hP, hB⟩
        have hS1 := (S.out.next (Below.refl _ _).drew).next hB
        have hrow := RowF.new (S.out.next (Below.refl _ _).drew).dev hg hlt hP
        refine ⟨_, rfl, fun _ => hS1.below, ?_⟩
        simp only [Act.put, List.setIfInBounds_toArray, List.set_cons_zero, List.set_cons_succ]
        refine oneL (i := 11) (o := { dst := some 99, op := Go.Op.call { callee := Go.Callee.value (Go.Operand.func 19), args := #[Go.Operand.tmp 88, Go.Operand.tmp 93, Go.Operand.tmp 98], argTypes := #[24, 3, 32] }, type := 25, pos := "outright.go:143", after := #[{ on := 0, ground := Go.Ground.data }, { on := 5, ground := Go.Ground.data }, { on := 10, ground := Go.Ground.data }, { on := 10, ground := Go.Ground.chain }], guard := none }) rfl (by kernel_rfl) rfl ?_
        have hW := write_any q d Z1 hS1.dev CA.out x.n (some ⟨g, 0, none⟩) (bytesN x) (bytesN x) (bytesL x) (row_bys hrow) (hrow.apart _ _)
        rw [hS1.D] at hW
        refine wp_by_call (f := 19) (args := #[ptr D, .int .i64 x.n, .slice (some ⟨g, 0, none⟩) (bytesN x) (bytesN x)]) (by go_simp) (hW.mono ?_)
        clear hW
        rintro e Z2 ⟨rfl, q2, hd2, hS2⟩
        have hS3 := hS1.step hd2 hS2
        refine ⟨_, rfl, fun _ => hS3.below, ?_⟩
        simp only [Act.put, List.setIfInBounds_toArray, List.set_cons_zero, List.set_cons_succ]
        refine oneL (i := 12) (o := { dst := some 14, op := Go.Op.assign (Go.Operand.tmp 99), type := 25, pos := "outright.go:143", after := #[{ on := 11, ground := Go.Ground.data }, { on := 11, ground := Go.Ground.chain }, { on := 0, ground := Go.Ground.phase }, { on := 1, ground := Go.Ground.phase }, { on := 2, ground := Go.Ground.phase }, { on := 3, ground := Go.Ground.phase }, { on := 4, ground := Go.Ground.phase }, { on := 5, ground := Go.Ground.phase }, { on := 6, ground := Go.Ground.phase }, { on := 7, ground := Go.Ground.phase }, { on := 8, ground := Go.Ground.phase }, { on := 9, ground := Go.Ground.phase }, { on := 10, ground := Go.Ground.phase }, { on := 11, ground := Go.Ground.phase }], guard := none }) rfl (by kernel_rfl) rfl ?_
        obtain ⟨y, hy⟩ : ∃ y, writeE d x.n (bytesL x).length = y := ⟨_, rfl⟩
        rw [hy]
        refine wp_by_run (w' := Z2) (v := .int .i64 y) (by go_simp) ⟨fun h => absurd rfl h, ?_⟩
        simp only [Act.put, List.setIfInBounds_toArray, List.set_cons_zero, List.set_cons_succ]
        have S3 := Lib.hid hS3
        clear hS3 hS1 hrow hd2 hS2 hB hP hlt hg q1
        refine doneL (by kernel_rfl) (Calm.normal ?_) _
        rw [hy] at HE
        
        have hC := calls_any _ _ _ S3.out.dev
        rw [S3.out.D] at hC
        have HU3 := Lib.hid HU.out
        clear hy HU
        obtain ⟨d3, hd3⟩ : ∃ d3, d.write x.n (bytesL x) = d3 := ⟨_, rfl⟩
        rw [hd3] at S3 HU3 HE hC
        clear hd3
        cases hdn : d.down
        · rw [hdn] at HE
          by_cases y0 : y = 120
          · have hcc := HE.out.1 rfl y0
            rw [hcc] at hC
            have HC := Lib.hid hC
            subst y0
            have hcn := HCN.out
            clear hC hcc hdn HE
            go_wp2_with (refine HC.out.mono ?_; rintro e w' ⟨rfl, rfl⟩)
            refine ⟨⟨_, rfl, rfl, ⟨rfl, rfl, rfl, rfl, rfl, rfl, rfl⟩, _, rfl, ?rel⟩, ?measure⟩
            case rel => exact ⟨k + 1, q2, _, HK.out, by first | rfl | (show Value.int .i64 (wrap64 ((k : Int) + 1)) = _; rw [wk]), S3.out, ⟨HU3.out.frm, HU3.out.num, HU3.out.len, HU3.out.at_, HU3.out.ahead, by have := HU3.out.calls; omega⟩⟩
            case measure =>
              have hk2 := HK.out
              first
                | (show len2 - (intOf (.int .i64 (wrap64 ((k : Int) + 1)))).toNat < len2 - (intOf (.int .i64 (k : Int))).toNat; rw [wk])
                | (show len2 - (intOf (.int .i64 ((k + 1 : Nat) : Int))).toNat < len2 - (intOf (.int .i64 (k : Int))).toNat)
                | (show len2 - (intOf (.int .i64 ((k : Int) + 1))).toNat < len2 - (intOf (.int .i64 (k : Int))).toNat)
              first
                | (show len2 - ((k + 1 : Nat) : Int).toNat < len2 - ((k : Nat) : Int).toNat; omega)
                | (show len2 - ((k : Int) + 1).toNat < len2 - ((k : Nat) : Int).toNat; omega)
          · have e1 : (y == 120) = false := by simpa using y0
            have e2 : (y != 120) = true := by simpa using y0
            clear hC hdn HE y0
            go_wp2
            refine ⟨⟨_, rfl, rfl, ⟨rfl, rfl, rfl, rfl, rfl, rfl, rfl⟩, _, rfl, ?rel⟩, ?measure⟩
            case rel => exact ⟨k + 1, q2, _, HK.out, by first | rfl | (show Value.int .i64 (wrap64 ((k : Int) + 1)) = _; rw [wk]), S3.out, ⟨HU3.out.frm, HU3.out.num, HU3.out.len, HU3.out.at_, HU3.out.ahead, by have := HU3.out.calls; omega⟩⟩
            case measure =>
              have hk2 := HK.out
              first
                | (show len2 - (intOf (.int .i64 (wrap64 ((k : Int) + 1)))).toNat < len2 - (intOf (.int .i64 (k : Int))).toNat; rw [wk])
                | (show len2 - (intOf (.int .i64 ((k + 1 : Nat) : Int))).toNat < len2 - (intOf (.int .i64 (k : Int))).toNat)
                | (show len2 - (intOf (.int .i64 ((k : Int) + 1))).toNat < len2 - (intOf (.int .i64 (k : Int))).toNat)
              first
                | (show len2 - ((k + 1 : Nat) : Int).toNat < len2 - ((k : Nat) : Int).toNat; omega)
                | (show len2 - ((k : Int) + 1).toNat < len2 - ((k : Nat) : Int).toNat; omega)
        · rw [hdn] at HE
          have y0 := HE.out.2 rfl
          subst y0
          clear hC hdn HE
          go_wp2
          refine ⟨⟨_, rfl, rfl, ⟨rfl, rfl, rfl, rfl, rfl, rfl, rfl⟩, _, rfl, ?rel⟩, ?measure⟩
          case rel => exact ⟨k + 1, q2, _, HK.out, by first | rfl | (show Value.int .i64 (wrap64 ((k : Int) + 1)) = _; rw [wk]), S3.out, ⟨HU3.out.frm, HU3.out.num, HU3.out.len, HU3.out.at_, HU3.out.ahead, by have := HU3.out.calls; omega⟩⟩
          case measure =>
            have hk2 := HK.out
            first
              | (show len2 - (intOf (.int .i64 (wrap64 ((k : Int) + 1)))).toNat < len2 - (intOf (.int .i64 (k : Int))).toNat; rw [wk])
              | (show len2 - (intOf (.int .i64 ((k + 1 : Nat) : Int))).toNat < len2 - (intOf (.int .i64 (k : Int))).toNat)
              | (show len2 - (intOf (.int .i64 ((k : Int) + 1))).toNat < len2 - (intOf (.int .i64 (k : Int))).toNat)
            first
              | (show len2 - ((k + 1 : Nat) : Int).toNat < len2 - ((k : Nat) : Int).toNat; omega)
              | (show len2 - ((k : Int) + 1).toNat < len2 - ((k : Nat) : Int).toNat; omega)
      have hke : k = len2 := by omega
      subst hke
      have i1 : ¬ ((k : Int) < k) := by omega
      have S := Lib.hid hS
      have HU := Lib.hid hU
      have CA := Lib.hid (show d.calls < 4611686018427387904 by have := hU.calls; have := HG.out.2.2.2; omega)
      have hD := down_any q d wr hS.dev
      have hC := calls_any q d wr hS.dev
      rw [hS.D] at hD hC
      obtain ⟨dn, hdn⟩ : ∃ b, d.down = b := ⟨_, rfl⟩
      obtain ⟨cc, hcc⟩ : ∃ c, d.calls = c := ⟨_, rfl⟩
      have e1 : (cc == C + n) = dn := by
        rw [← hcc, ← hdn]
        cases h : d.down with
        | true => have := hU.at_ h; simpa using this
        | false => have := hU.ahead h; simp; omega
      have e2 : (dn != dn) = false := by cases dn <;> rfl
      have e3 : ¬ (C + n < cc) := by
        rw [← hcc]
        cases h : d.down with
        | true => have := hU.at_ h; omega
        | false => have := hU.ahead h; omega
      rw [hdn] at hD
      rw [hcc] at hC
      have HD := Lib.hid hD
      have HC := Lib.hid hC
      have hcn := HCN.out
      clear hD hC hS hU hlt hk hdn hcc
      go_wp2_with (first | (go_at_call 12; refine HD.out.mono ?_; rintro e w' ⟨rfl, rfl⟩) | (go_at_call 13; refine HC.out.mono ?_; rintro e w' ⟨rfl, rfl⟩) | fail)
      have hP := pull_any q d _ S.out.dev
      rw [S.out.D] at hP
      refine hP.mono ?_
      clear hP
      rintro e W1 ⟨rfl, hd, hS⟩
      have S1 := Lib.hid (S.out.step hd hS)
      have HX := Lib.hid (show d.pull.down = true ∧ d.pull.calls < 4611686018427387904 ∧ HasN d.pull 0 from ⟨rfl, CA.out, Int.le_refl _, by show (0 : Int) < (d.safe.length : Int); rw [HU.out.len]; decide⟩)
      obtain ⟨d1, hd1⟩ : ∃ d1, d.pull = d1 := ⟨_, rfl⟩
      rw [hd1] at S1 HX
      clear hd1 hd hS S HU CA HD HC e1 e2 e3 hcn HCN
      go_wp2_with fail
      have hK := cached_any q d1 W1 S1.out.dev
      rw [S1.out.D] at hK
      refine hK.mono ?_
      clear hK
      rintro e W2 ⟨v, rfl, hO, hg, hB⟩
      obtain ⟨va, vc, hv⟩ : ∃ va vc, v = .slice va d1.cache.length vc := by
        rcases hO.2 with ⟨e, e2⟩ | ⟨g, cap, cur, e, _⟩
        · exact ⟨none, 0, by rw [e, e2]⟩
        · exact ⟨_, _, e⟩
      subst hv
      have S2 := Lib.hid (S1.out.next hB)
      clear hO hg hB S1
      go_wp2_with fail
      have hF := safe_yes q d1 W2 S2.out.dev 0 HX.out.2.2
      rw [S2.out.D] at hF
      refine hF.mono ?_
      clear hF
      rintro e W3 ⟨g1, hg, rfl, hat, hB⟩
      have hl1 : (d1.at 0).length = 128 := (S2.out.dev.sec HX.out.2.2).2
      have R1 := Lib.hid (RowF.new S2.out.dev hg hat.lt (row_of_at hat hl1))
      have S3 := Lib.hid (S2.out.next hB)
      have HS1 := Lib.hid (read_in S2.out.dev HX.out.2.2)
      clear hg hat hB S2 hl1
      obtain ⟨i0, hi, hz0, hz1, hz2⟩ := parts8
      have HI0 := Lib.hid hi
      have HZ0 := Lib.hid hz0
      have HZ1 := Lib.hid hz1
      have HZ2 := Lib.hid hz2
      clear hi hz0 hz1 hz2
      go_wp2_with (at_make; refine wpList_make_full _ rfl _ _ 32 rfl W3.heap.size 5 i0 (.int .u8 0) 1 Try.underlying32 HI0.out HZ0.out HZ1.out .i64 .i64 _ _ 128 rfl rfl rfl rfl (by rw [HZ2.out]; omega) (by unfold maxLen; omega) (Nat.le_refl _) ?_)
      intro w4 hO1 hG1
      have hB1 : Below W3.heap.size W3 w4 := (Below.refl _ _).grown hG1 (Nat.le_refl _) (by simp)
      have hP1 : Row8 W3.heap.size 128 (fun _ => 0) w4 := Row8.of_owns hO1 (fun j hj => by have := made8_zero 128 j hj; simpa [Value.cells] using this)
      have hlt1 : W3.heap.size < w4.heap.size := (hO1.lt _ rfl).2
      have R4 := Lib.hid (RowF.new S3.out.dev (Nat.le_refl _) hlt1 hP1)
      have R1b := Lib.hid (R1.out.next hB1)
      have S4 := Lib.hid (S3.out.next hB1)
      clear hO1 hG1 hB1 hP1 hlt1 R1 S3
      obtain ⟨g4, hg4⟩ : ∃ g, W3.heap.size = g := ⟨_, rfl⟩
      rw [hg4] at R4 ⊢
      clear hg4
      go_wp2_with fail
      have hW := write_any q d1 w4 S4.out.dev HX.out.2.1 0 (some ⟨g4, 0, none⟩) 128 128 _ (R4.out.bys (fun j _ => by decide) 128) (R4.out.apart 128 128)
      rw [S4.out.D, (write_down HX.out.1 0 [] _).1, (write_down HX.out.1 0 _ 0).2] at hW
      refine hW.mono ?_
      clear hW
      rintro e W5 ⟨rfl, q5, hd, hS⟩
      have S5 := Lib.hid (S4.out.step hd hS)
      have R5 := Lib.hid (R1b.out.step hS)
      clear hd hS S4 R1b R4
      go_wp2_with fail
      have hW := flush_any q5 d1 W5 S5.out.dev HX.out.2.1
      rw [S5.out.D, (flush_down HX.out.1).1, (flush_down HX.out.1).2] at hW
      refine hW.mono ?_
      clear hW
      rintro e W6 ⟨rfl, q6, hd, hS⟩
      have S6 := Lib.hid (S5.out.step hd hS)
      have R6 := Lib.hid (R5.out.step hS)
      clear hd hS S5 R5
      go_wp2_with fail
      have hW := plan_any q6 d1 W6 S6.out.dev 1 (by decide)
      rw [S6.out.D, (plan_down HX.out.1 1).1, (plan_down HX.out.1 1).2] at hW
      refine hW.mono ?_
      clear hW
      rintro e W7 ⟨rfl, q7, hd, hS⟩
      have S7 := Lib.hid (S6.out.step hd hS)
      have R7 := Lib.hid (R6.out.step hS)
      clear hd hS S6 R6
      go_wp2_with fail
      have hF := safe_yes q7 d1 W7 S7.out.dev 0 HX.out.2.2
      rw [S7.out.D] at hF
      refine hF.mono ?_
      clear hF
      rintro e W8 ⟨g2, hg, rfl, hat, hB⟩
      have hl1 : (d1.at 0).length = 128 := (S7.out.dev.sec HX.out.2.2).2
      have R8 := Lib.hid (RowF.new S7.out.dev hg hat.lt (row_of_at hat hl1))
      have R7b := Lib.hid (R7.out.next hB)
      have S8 := Lib.hid (S7.out.next hB)
      clear hg hat hB S7 R7 hl1
      go_wp2_with fail
      have hK := cached_any q7 d1 W8 S8.out.dev
      rw [S8.out.D] at hK
      refine hK.mono ?_
      clear hK
      rintro e W9 ⟨v, rfl, hO, hg, hB⟩
      obtain ⟨va2, vc2, hv⟩ : ∃ va vc, v = .slice va d1.cache.length vc := by
        rcases hO.2 with ⟨e, e2⟩ | ⟨g, cap, cur, e, _⟩
        · exact ⟨none, 0, by rw [e, e2]⟩
        · exact ⟨_, _, e⟩
      subst hv
      have S9 := Lib.hid (S8.out.next hB)
      have c1 := conv_bys ((R7b.out.next hB).bys HS1.out 128)
      have c2 := conv_bys ((R8.out.next hB).bys HS1.out 128)
      obtain ⟨st, hst⟩ : ∃ s, strOfNums ((List.range 128).map fun j => (d1.at 0).getD j 0) = s := ⟨_, rfl⟩
      rw [hst] at c1 c2
      have eb : (st.toList == st.toList) = true := by simp
      clear hst hO hg hB S8 R7b R8 HS1
      go_wp2
      go_ret
      refine ⟨?_, S9.out.below⟩
      first
        | rfl
        | simp
end Go.Proofs.Yteopbeafhhfdoaa
