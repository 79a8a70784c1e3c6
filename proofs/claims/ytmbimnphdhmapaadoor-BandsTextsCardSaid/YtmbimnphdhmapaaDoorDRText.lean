/- The document's Text. -/
import Derived.Test.YtmbimnphdhmapaaDoorDBackW
import Derived.Test.YtmbimnphdhmapaaDoorBDig
set_option linter.unusedVariables false
set_option linter.unusedSimpArgs false
namespace Go.Proofs.YtmbimnphdhmapaaDoor
open Go.RowKit Go.Shelf
theorem dec_nums : ∀ (n u : Nat), u ≤ n → (decL u).map (fun n => UInt8.ofNat n.toNat) = Lib.decDigits u := by
  intro n
  induction n with
  | zero => intro u hu; have : u = 0 := by omega
            subst this; rw [decL_one (by omega), Lib.decDigits, dif_pos (by omega)]; rfl
  | succ n ih =>
    intro u hu
    by_cases h : u < 10
    · rw [decL_one h, Lib.decDigits, dif_pos h]
      simp only [List.map_cons, List.map_nil]
      congr 2
    · rw [decL_more h, Lib.decDigits, dif_neg h, List.map_append, ih (u / 10) (by omega)]
      simp only [List.map_cons, List.map_nil]
      congr 3
theorem digitsB_any (n : Int) (h : 0 ≤ n) (h' : n < 10000) (w : World) : Calls Tryd.prog 21 #[.int .i64 n] w fun e w' => e = .returned (strL (Lib.itoa n)) ∧ Below w.heap.size w w' := by
  obtain ⟨u, rfl⟩ : ∃ u : Nat, n = (u : Int) := ⟨n.toNat, by omega⟩
  have hd := digits_any u (by omega) w
  unfold strOfNums at hd
  rw [dec_nums u u (Nat.le_refl _)] at hd
  rw [Lib.itoa_nonneg]
  exact hd
theorem str_cat (a b : List UInt8) : (⟨a.toArray⟩ : ByteArray) ++ ⟨b.toArray⟩ = ⟨(a ++ b).toArray⟩ := by
  apply ByteArray.ext
  apply Array.toList_inj.1
  simp
theorem cat4 (T : List UInt8) (m b : Int) : (((⟨T.toArray⟩ : ByteArray) ++ ⟨(Lib.itoa m).toArray⟩) ++ ⟨#[58]⟩) ++ ⟨(Lib.itoa b).toArray⟩ = ⟨(T ++ Lib.itoa m ++ [58] ++ Lib.itoa b).toArray⟩ := by
  apply ByteArray.ext
  apply Array.toList_inj.1
  simp
theorem join_snoc : ∀ (xs : List (List UInt8)) (y : List UInt8), xs ≠ [] → Lib.join (xs ++ [y]) [32] = Lib.join xs [32] ++ 32 :: y
  | [], y, h => absurd rfl h
  | [x], y, _ => by rw [List.singleton_append, join_two, Lib.join_one, Lib.join_one]
  | x :: z :: r, y, _ => by
    rw [List.cons_append, List.cons_append, join_two, ← List.cons_append, join_snoc (z :: r) y (by simp), join_two]
    simp
/-- The text so far. -/
def textF (L : Nat → Sw) (k : Nat) : List UInt8 := Lib.join (firsts L k) [32]
theorem textF_one (L : Nat → Sw) : textF L 1 = swL (L 0) := by
  show Lib.join [swL (L 0)] [32] = _
  rw [Lib.join_one]
theorem textF_succ (L : Nat → Sw) (k : Nat) (h : 0 < k) : textF L (k + 1) = textF L k ++ 32 :: swL (L k) := by
  unfold textF
  rw [firsts_succ, join_snoc _ _ (fun e => by have := congrArg List.length e; rw [firsts_len] at this; simp at this; omega)]
theorem textF_len {L : Nat → Sw} {n k : Nat} (h : PlanIs L n) (hk : k ≤ n) : (textF L k).length ≤ 480 := by
  have := join_le (firsts L k) (fun x hx => by
    obtain ⟨i, hi, rfl⟩ := List.mem_map.1 hx
    exact firsts_le h _ (List.mem_map.2 ⟨i, List.mem_range.2 (by have := List.mem_range.1 hi; omega), rfl⟩))
  rw [firsts_len] at this
  have := h.2.1
  unfold textF
  omega
set_option maxRecDepth 100000 in
set_option maxHeartbeats 2000000 in
theorem rText_no (a : Option Addr) (len cap : Nat) (L : Nat → Sw) (hno : ¬ PlanIs L len) (w : World) (hA : SwsAt w.heap.size w a len L) (hlm : len ≤ maxLen) :
    Calls Tryd.prog 7 #[.slice a len cap] w fun e w' => e = .returned (.tuple #[.string ⟨#[]⟩, .int .i64 90]) ∧ Below w.heap.size w w' := by
  have hck := rMayP_any a len cap L w hA hlm
  rw [decide_eq_false hno] at hck
  have HCK := Lib.hid hck
  clear hA hlm hno hck
  go_enter Tryd.func7, Tryd.ntmps7
  go_wp2_with fail
  refine HCK.out.mono ?_
  rintro e w1 ⟨rfl, hB1⟩
  have HB1 := Lib.hid hB1
  clear hB1
  go_wp2
  go_ret2
  exact ⟨rfl, HB1.out⟩
set_option maxRecDepth 100000 in
set_option maxHeartbeats 8000000 in
theorem rText_yes (a : Option Addr) (len cap : Nat) (L : Nat → Sw) (hyes : PlanIs L len) (w : World) (hA : SwsAt w.heap.size w a len L) (hlm : len ≤ maxLen) :
    Calls Tryd.prog 7 #[.slice a len cap] w fun e w' => e = .returned (.tuple #[strL (textL (swsOf L len)), .int .i64 0]) ∧ Below w.heap.size w w' := by
  have hck := rMayP_any a len cap L w hA hlm
  rw [decide_eq_true hyes] at hck
  have HCK := Lib.hid hck
  have HY := Lib.hid hyes
  have HA := Lib.hid hA
  have HMX := Lib.hid (show Tryd.prog.follows .mixedOrders = true by kernel_rfl)
  have hl1 := hyes.1
  have hl2 := hyes.2.1
  clear hA hlm hyes hck
  go_enter Tryd.func7, Tryd.ntmps7
  go_wp2_with fail
  refine HCK.out.mono ?_
  rintro e w1 ⟨rfl, hB1⟩
  have HB1 := Lib.hid hB1
  clear hB1
  go_wp2_with fail
  go_loopw [5, 6] (fun v i wr => ∃ k : Nat, k ≤ len ∧ i = .int .i64 k ∧ v = strL (textF L k) ∧ Below w.heap.size w wr) (fun _ i _ => (len - intOf i).toNat)
  case atStart => exact ⟨0, Nat.zero_le _, rfl, rfl, HB1.out⟩
  case round =>
    obtain ⟨k, hk, rfl, rfl, hb⟩ := hrel
    have HB := Lib.hid hb
    clear hb
    by_cases hlt : k < len
    · have hlti : (k : Int) < len := by omega
      obtain ⟨bb, o, rfl, hbl, c0, c1⟩ := HA.out.next HB.out (Nat.le_refl _) (Nat.le_refl _) k hlt
      have hbw : bb < wr.heap.size := Nat.lt_of_lt_of_le hbl HB.out.size
      have hR := HY.out.2.2.2 k hlt
      have hM0 := min_of HY.out k hlt
      have hTL := textF_len HY.out hk
      have hSU := textF_succ L k
      have hON := textF_one L
      unfold SwOk at hR
      obtain ⟨⟨m, b⟩, hmb⟩ : ∃ r, L k = r := ⟨_, rfl⟩
      rw [hmb] at c0 c1 hR hM0 hSU
      simp only at c0 c1 hM0 hR
      have HMB := Lib.hid (show 0 ≤ m ∧ m < 10000 ∧ 0 ≤ b ∧ b < 10000 by omega)
      have hl1 := itoa_small m (by omega) (by omega)
      have hl2 := itoa_small b (by omega) (by omega)
      by_cases hk0 : k = 0
      · have hgk : ¬ ((0 : Int) < (k : Int)) := by omega
        obtain ⟨T, hT⟩ : ∃ T, T = textF L k := ⟨_, rfl⟩
        have hT0 : T = [] := by rw [hT, hk0]; rfl
        have HF : Hid (T ++ Lib.itoa m ++ [58] ++ Lib.itoa b = textF L (k + 1)) := Lib.hid (by rw [hk0, hON, ← hk0, hmb, hT0]; simp [swL])
        have HLN : Hid (T.length ≤ 480 ∧ (Lib.itoa m).length ≤ 4 ∧ (Lib.itoa b).length ≤ 4) := Lib.hid ⟨by rw [hT0]; simp, hl1, hl2⟩
        rw [← hT]
        clear hR hM0 hTL hSU hON hmb hl1 hl2 hT hT0 hk0
        go_wp2_with fail
        refine regionL (fun W => W.cell? ⟨bb, o + k * 2, none⟩ = some (.int .i64 m) ∧ W.cell? ⟨bb, o + k * 2 + 1, none⟩ = some (.int .i64 b)) 16 HMX.out ?_
        have y0 : wr.drew.cell? ⟨bb, o + k * 2, none⟩ = some (.int .i64 m) ∧ wr.drew.cell? ⟨bb, o + k * 2 + 1, none⟩ = some (.int .i64 b) := ⟨c0, c1⟩
        refine takeL (i := 0) (oi := { dst := some 21, op := Go.Op.move (Go.Operand.tmp 5), type := 9, pos := "ref.go:137", after := #[], guard := none }) (v := strL T) [16] rfl (by kernel_rfl) (by kernel_rfl) (by kernel_rfl) (by kernel_rfl) (fun _ _ _ h => calm_panic h) rfl ?_ y0 ?_
        · intro W hW
          (try dsimp only at hW)
          obtain ⟨q0, q1⟩ := hW
          go_simp
        simp only [Act.put, List.setIfInBounds_toArray, List.set_cons_zero, List.set_cons_succ]
        refine takeL (i := 1) (oi := { dst := some 22, op := Go.Op.move (Go.Operand.tmp 0), type := 28, pos := "ref.go:137", after := #[], guard := none }) (v := .slice (some ⟨bb, o, none⟩) len cap) [16] rfl (by kernel_rfl) (by kernel_rfl) (by kernel_rfl) (by kernel_rfl) (fun _ _ _ h => calm_panic h) rfl ?_ y0 ?_
        · intro W hW
          (try dsimp only at hW)
          obtain ⟨q0, q1⟩ := hW
          go_simp
        simp only [Act.put, List.setIfInBounds_toArray, List.set_cons_zero, List.set_cons_succ]
        refine takeL (i := 2) (oi := { dst := some 23, op := Go.Op.move (Go.Operand.tmp 6), type := 3, pos := "ref.go:137", after := #[], guard := none }) (v := .int .i64 k) [16] rfl (by kernel_rfl) (by kernel_rfl) (by kernel_rfl) (by kernel_rfl) (fun _ _ _ h => calm_panic h) rfl ?_ y0 ?_
        · intro W hW
          (try dsimp only at hW)
          obtain ⟨q0, q1⟩ := hW
          go_simp
        simp only [Act.put, List.setIfInBounds_toArray, List.set_cons_zero, List.set_cons_succ]
        refine takeL (i := 3) (oi := { dst := some 24, op := Go.Op.indexAddr 28 (Go.Operand.tmp 22) (Go.Operand.tmp 23), type := 0, pos := "ref.go:137", after := #[{ on := 1, ground := Go.Ground.data }, { on := 2, ground := Go.Ground.data }], guard := none }) (v := .pointer (some ⟨bb, o + k * 2, none⟩)) [16] rfl (by kernel_rfl) (by kernel_rfl) (by kernel_rfl) (by kernel_rfl) (fun _ _ _ h => calm_panic h) rfl ?_ y0 ?_
        · intro W hW
          (try dsimp only at hW)
          obtain ⟨q0, q1⟩ := hW
          go_simp
        simp only [Act.put, List.setIfInBounds_toArray, List.set_cons_zero, List.set_cons_succ]
        refine takeL (i := 4) (oi := { dst := some 25, op := Go.Op.fieldAddr 55 (Go.Operand.tmp 24) 0, type := 0, pos := "ref.go:137", after := #[{ on := 3, ground := Go.Ground.data }], guard := none }) (v := .pointer (some ⟨bb, o + k * 2, none⟩)) [16] rfl (by kernel_rfl) (by kernel_rfl) (by kernel_rfl) (by kernel_rfl) (fun _ _ _ h => calm_panic h) rfl ?_ y0 ?_
        · intro W hW
          (try dsimp only at hW)
          obtain ⟨q0, q1⟩ := hW
          go_simp
        simp only [Act.put, List.setIfInBounds_toArray, List.set_cons_zero, List.set_cons_succ]
        refine takeL (i := 5) (oi := { dst := some 26, op := Go.Op.load 3 (Go.Operand.tmp 25), type := 3, pos := "ref.go:137", after := #[{ on := 4, ground := Go.Ground.data }], guard := none }) (v := .int .i64 m) [16] rfl (by kernel_rfl) (by kernel_rfl) (by kernel_rfl) (by kernel_rfl) (fun _ _ _ h => calm_panic h) rfl ?_ y0 ?_
        · intro W hW
          (try dsimp only at hW)
          obtain ⟨q0, q1⟩ := hW
          go_simp
        simp only [Act.put, List.setIfInBounds_toArray, List.set_cons_zero, List.set_cons_succ]
        refine takeL (i := 9) (oi := { dst := some 30, op := Go.Op.move (Go.Operand.tmp 0), type := 28, pos := "ref.go:137", after := #[], guard := none }) (v := .slice (some ⟨bb, o, none⟩) len cap) [16] rfl (by kernel_rfl) (by kernel_rfl) (by kernel_rfl) (by kernel_rfl) (fun _ _ _ h => calm_panic h) rfl ?_ y0 ?_
        · intro W hW
          (try dsimp only at hW)
          obtain ⟨q0, q1⟩ := hW
          go_simp
        simp only [Act.put, List.setIfInBounds_toArray, List.set_cons_zero, List.set_cons_succ]
        refine takeL (i := 10) (oi := { dst := some 31, op := Go.Op.move (Go.Operand.tmp 6), type := 3, pos := "ref.go:137", after := #[], guard := none }) (v := .int .i64 k) [16] rfl (by kernel_rfl) (by kernel_rfl) (by kernel_rfl) (by kernel_rfl) (fun _ _ _ h => calm_panic h) rfl ?_ y0 ?_
        · intro W hW
          (try dsimp only at hW)
          obtain ⟨q0, q1⟩ := hW
          go_simp
        simp only [Act.put, List.setIfInBounds_toArray, List.set_cons_zero, List.set_cons_succ]
        refine takeL (i := 11) (oi := { dst := some 32, op := Go.Op.indexAddr 28 (Go.Operand.tmp 30) (Go.Operand.tmp 31), type := 0, pos := "ref.go:137", after := #[{ on := 9, ground := Go.Ground.data }, { on := 10, ground := Go.Ground.data }], guard := none }) (v := .pointer (some ⟨bb, o + k * 2, none⟩)) [16] rfl (by kernel_rfl) (by kernel_rfl) (by kernel_rfl) (by kernel_rfl) (fun _ _ _ h => calm_panic h) rfl ?_ y0 ?_
        · intro W hW
          (try dsimp only at hW)
          obtain ⟨q0, q1⟩ := hW
          go_simp
        simp only [Act.put, List.setIfInBounds_toArray, List.set_cons_zero, List.set_cons_succ]
        refine takeL (i := 12) (oi := { dst := some 33, op := Go.Op.fieldAddr 55 (Go.Operand.tmp 32) 1, type := 0, pos := "ref.go:137", after := #[{ on := 11, ground := Go.Ground.data }], guard := none }) (v := .pointer (some ⟨bb, o + k * 2 + 1, none⟩)) [16] rfl (by kernel_rfl) (by kernel_rfl) (by kernel_rfl) (by kernel_rfl) (fun _ _ _ h => calm_panic h) rfl ?_ y0 ?_
        · intro W hW
          (try dsimp only at hW)
          obtain ⟨q0, q1⟩ := hW
          go_simp
        simp only [Act.put, List.setIfInBounds_toArray, List.set_cons_zero, List.set_cons_succ]
        refine takeL (i := 13) (oi := { dst := some 34, op := Go.Op.load 3 (Go.Operand.tmp 33), type := 3, pos := "ref.go:137", after := #[{ on := 12, ground := Go.Ground.data }], guard := none }) (v := .int .i64 b) [16] rfl (by kernel_rfl) (by kernel_rfl) (by kernel_rfl) (by kernel_rfl) (fun _ _ _ h => calm_panic h) rfl ?_ y0 ?_
        · intro W hW
          (try dsimp only at hW)
          obtain ⟨q0, q1⟩ := hW
          go_simp
        simp only [Act.put, List.setIfInBounds_toArray, List.set_cons_zero, List.set_cons_succ]
        refine oneL (i := 6) (o := { dst := some 27, op := Go.Op.call { callee := Go.Callee.value (Go.Operand.func 21), args := #[Go.Operand.tmp 26], argTypes := #[3] }, type := 9, pos := "ref.go:137", after := #[{ on := 5, ground := Go.Ground.data }], guard := none }) rfl (by kernel_rfl) rfl ?_
        refine wp_by_call (f := 21) (args := #[.int .i64 m]) (by simp [execOp, go_sem]) ?_
        refine (digitsB_any m HMB.out.1 HMB.out.2.1 wr.drew).mono ?_
        rintro e w2 ⟨rfl, hB2'⟩
        have hB2 : Below wr.heap.size wr w2 := ⟨hB2'.os, hB2'.tape, hB2'.output, hB2'.size, hB2'.block⟩
        have y2 : w2.cell? ⟨bb, o + k * 2, none⟩ = some (.int .i64 m) ∧ w2.cell? ⟨bb, o + k * 2 + 1, none⟩ = some (.int .i64 b) := ⟨(hB2.cell (p := ⟨bb, o + k * 2, none⟩) hbw).trans c0, (hB2.cell (p := ⟨bb, o + k * 2 + 1, none⟩) hbw).trans c1⟩
        have H2 := Lib.hid hB2
        clear hB2' hB2
        refine ⟨_, rfl, fun _ => y2, ?_⟩
        simp only [Act.put, List.setIfInBounds_toArray, List.set_cons_zero, List.set_cons_succ]
        refine takeL (i := 7) (oi := { dst := some 28, op := Go.Op.binOp Go.BinOp.add 9 (Go.Operand.tmp 21) (Go.Operand.tmp 27) 9, type := 9, pos := "ref.go:137", after := #[{ on := 0, ground := Go.Ground.data }, { on := 6, ground := Go.Ground.data }], guard := none }) (v := .string ((⟨T.toArray⟩ : ByteArray) ++ ⟨(Lib.itoa m).toArray⟩)) [16] rfl (by kernel_rfl) (by kernel_rfl) (by kernel_rfl) (by kernel_rfl) (fun _ _ _ h => calm_panic h) rfl ?_ y2 ?_
        · intro W hW
          (try dsimp only at hW)
          obtain ⟨q0, q1⟩ := hW
          have hx := HLN.out
          go_simp
          omega
        simp only [Act.put, List.setIfInBounds_toArray, List.set_cons_zero, List.set_cons_succ]
        refine takeL (i := 8) (oi := { dst := some 29, op := Go.Op.binOp Go.BinOp.add 9 (Go.Operand.tmp 28) (Go.Operand.const (Go.Value.string { data := #[58] })) 9, type := 9, pos := "ref.go:137", after := #[{ on := 7, ground := Go.Ground.data }], guard := none }) (v := .string (((⟨T.toArray⟩ : ByteArray) ++ ⟨(Lib.itoa m).toArray⟩) ++ ⟨#[58]⟩)) [16] rfl (by kernel_rfl) (by kernel_rfl) (by kernel_rfl) (by kernel_rfl) (fun _ _ _ h => calm_panic h) rfl ?_ y2 ?_
        · intro W hW
          (try dsimp only at hW)
          obtain ⟨q0, q1⟩ := hW
          have hx := HLN.out
          go_simp
          omega
        simp only [Act.put, List.setIfInBounds_toArray, List.set_cons_zero, List.set_cons_succ]
        refine oneL (i := 14) (o := { dst := some 35, op := Go.Op.call { callee := Go.Callee.value (Go.Operand.func 21), args := #[Go.Operand.tmp 34], argTypes := #[3] }, type := 9, pos := "ref.go:137", after := #[{ on := 13, ground := Go.Ground.data }, { on := 6, ground := Go.Ground.chain }], guard := none }) rfl (by kernel_rfl) rfl ?_
        refine wp_by_call (f := 21) (args := #[.int .i64 b]) (by simp [execOp, go_sem]) ?_
        refine (digitsB_any b HMB.out.2.2.1 HMB.out.2.2.2 w2).mono ?_
        rintro e w3 ⟨rfl, hB3⟩
        have y3 : w3.cell? ⟨bb, o + k * 2, none⟩ = some (.int .i64 m) ∧ w3.cell? ⟨bb, o + k * 2 + 1, none⟩ = some (.int .i64 b) := ⟨(hB3.cell (p := ⟨bb, o + k * 2, none⟩) (Nat.lt_of_lt_of_le hbw H2.out.size)).trans y2.1, (hB3.cell (p := ⟨bb, o + k * 2 + 1, none⟩) (Nat.lt_of_lt_of_le hbw H2.out.size)).trans y2.2⟩
        have H3 := Lib.hid (HB.out.trans ((H2.out.trans (hB3.mono H2.out.size)).mono HB.out.size))
        clear hB3 y2 y0
        refine ⟨_, rfl, fun _ => y3, ?_⟩
        simp only [Act.put, List.setIfInBounds_toArray, List.set_cons_zero, List.set_cons_succ]
        refine takeL (i := 15) (oi := { dst := some 36, op := Go.Op.binOp Go.BinOp.add 9 (Go.Operand.tmp 29) (Go.Operand.tmp 35) 9, type := 9, pos := "ref.go:137", after := #[{ on := 8, ground := Go.Ground.data }, { on := 14, ground := Go.Ground.data }], guard := none }) (v := .string ((((⟨T.toArray⟩ : ByteArray) ++ ⟨(Lib.itoa m).toArray⟩) ++ ⟨#[58]⟩) ++ ⟨(Lib.itoa b).toArray⟩)) [16] rfl (by kernel_rfl) (by kernel_rfl) (by kernel_rfl) (by kernel_rfl) (fun _ _ _ h => calm_panic h) rfl ?_ y3 ?_
        · intro W hW
          (try dsimp only at hW)
          obtain ⟨q0, q1⟩ := hW
          have hx := HLN.out
          go_simp
          omega
        simp only [Act.put, List.setIfInBounds_toArray, List.set_cons_zero, List.set_cons_succ]
        rw [cat4 T m b]
        refine oneL (i := 16) (o := { dst := some 5, op := Go.Op.assign (Go.Operand.tmp 36), type := 9, pos := "ref.go:137", after := #[{ on := 15, ground := Go.Ground.data }, { on := 14, ground := Go.Ground.chain }, { on := 0, ground := Go.Ground.phase }, { on := 1, ground := Go.Ground.phase }, { on := 2, ground := Go.Ground.phase }, { on := 3, ground := Go.Ground.phase }, { on := 4, ground := Go.Ground.phase }, { on := 5, ground := Go.Ground.phase }, { on := 6, ground := Go.Ground.phase }, { on := 7, ground := Go.Ground.phase }, { on := 8, ground := Go.Ground.phase }, { on := 9, ground := Go.Ground.phase }, { on := 10, ground := Go.Ground.phase }, { on := 11, ground := Go.Ground.phase }, { on := 12, ground := Go.Ground.phase }, { on := 13, ground := Go.Ground.phase }, { on := 14, ground := Go.Ground.phase }, { on := 15, ground := Go.Ground.phase }], guard := none }) rfl (by kernel_rfl) rfl ?_
        refine wp_by_run (v := strL (T ++ Lib.itoa m ++ [58] ++ Lib.itoa b)) (w' := w3) (by go_simp) ?_
        refine ⟨fun h => absurd rfl h, ?_⟩
        simp only [Act.put, List.setIfInBounds_toArray, List.set_cons_zero, List.set_cons_succ]
        refine doneL (by kernel_rfl) (Calm.normal ?_) _
        clear y3 c0 c1
        go_wp2
        go_roundw
        case rel => exact ⟨k + 1, by omega, by go_num, by rw [HF.out], H3.out⟩
        case measure => first | (simp [intOf]; done) | (simp [intOf]; omega)
      · have hgk : (0 : Int) < (k : Int) := by omega
        obtain ⟨T0, hT0⟩ : ∃ T, T = textF L k := ⟨_, rfl⟩
        have hsc := str_cat T0 [32]
        obtain ⟨T, hT⟩ : ∃ T, T = T0 ++ [32] := ⟨_, rfl⟩
        have HF : Hid (T ++ Lib.itoa m ++ [58] ++ Lib.itoa b = textF L (k + 1)) := Lib.hid (by rw [hSU (by omega), hT, hT0]; simp [swL])
        have HLN : Hid (T.length ≤ 481 ∧ (Lib.itoa m).length ≤ 4 ∧ (Lib.itoa b).length ≤ 4) := Lib.hid ⟨by rw [hT, hT0]; simp; omega, hl1, hl2⟩
        have hlen0 : T0.length ≤ 480 := by rw [hT0]; exact hTL
        rw [← hT0]
        rw [← hT] at hsc
        clear hR hM0 hTL hSU hON hmb hl1 hl2 hT0 hT hk0
        go_wp2_with fail
        refine regionL (fun W => W.cell? ⟨bb, o + k * 2, none⟩ = some (.int .i64 m) ∧ W.cell? ⟨bb, o + k * 2 + 1, none⟩ = some (.int .i64 b)) 16 HMX.out ?_
        have y0 : wr.drew.cell? ⟨bb, o + k * 2, none⟩ = some (.int .i64 m) ∧ wr.drew.cell? ⟨bb, o + k * 2 + 1, none⟩ = some (.int .i64 b) := ⟨c0, c1⟩
        refine takeL (i := 0) (oi := { dst := some 21, op := Go.Op.move (Go.Operand.tmp 5), type := 9, pos := "ref.go:137", after := #[], guard := none }) (v := strL T) [16] rfl (by kernel_rfl) (by kernel_rfl) (by kernel_rfl) (by kernel_rfl) (fun _ _ _ h => calm_panic h) rfl ?_ y0 ?_
        · intro W hW
          (try dsimp only at hW)
          obtain ⟨q0, q1⟩ := hW
          go_simp
        simp only [Act.put, List.setIfInBounds_toArray, List.set_cons_zero, List.set_cons_succ]
        refine takeL (i := 1) (oi := { dst := some 22, op := Go.Op.move (Go.Operand.tmp 0), type := 28, pos := "ref.go:137", after := #[], guard := none }) (v := .slice (some ⟨bb, o, none⟩) len cap) [16] rfl (by kernel_rfl) (by kernel_rfl) (by kernel_rfl) (by kernel_rfl) (fun _ _ _ h => calm_panic h) rfl ?_ y0 ?_
        · intro W hW
          (try dsimp only at hW)
          obtain ⟨q0, q1⟩ := hW
          go_simp
        simp only [Act.put, List.setIfInBounds_toArray, List.set_cons_zero, List.set_cons_succ]
        refine takeL (i := 2) (oi := { dst := some 23, op := Go.Op.move (Go.Operand.tmp 6), type := 3, pos := "ref.go:137", after := #[], guard := none }) (v := .int .i64 k) [16] rfl (by kernel_rfl) (by kernel_rfl) (by kernel_rfl) (by kernel_rfl) (fun _ _ _ h => calm_panic h) rfl ?_ y0 ?_
        · intro W hW
          (try dsimp only at hW)
          obtain ⟨q0, q1⟩ := hW
          go_simp
        simp only [Act.put, List.setIfInBounds_toArray, List.set_cons_zero, List.set_cons_succ]
        refine takeL (i := 3) (oi := { dst := some 24, op := Go.Op.indexAddr 28 (Go.Operand.tmp 22) (Go.Operand.tmp 23), type := 0, pos := "ref.go:137", after := #[{ on := 1, ground := Go.Ground.data }, { on := 2, ground := Go.Ground.data }], guard := none }) (v := .pointer (some ⟨bb, o + k * 2, none⟩)) [16] rfl (by kernel_rfl) (by kernel_rfl) (by kernel_rfl) (by kernel_rfl) (fun _ _ _ h => calm_panic h) rfl ?_ y0 ?_
        · intro W hW
          (try dsimp only at hW)
          obtain ⟨q0, q1⟩ := hW
          go_simp
        simp only [Act.put, List.setIfInBounds_toArray, List.set_cons_zero, List.set_cons_succ]
        refine takeL (i := 4) (oi := { dst := some 25, op := Go.Op.fieldAddr 55 (Go.Operand.tmp 24) 0, type := 0, pos := "ref.go:137", after := #[{ on := 3, ground := Go.Ground.data }], guard := none }) (v := .pointer (some ⟨bb, o + k * 2, none⟩)) [16] rfl (by kernel_rfl) (by kernel_rfl) (by kernel_rfl) (by kernel_rfl) (fun _ _ _ h => calm_panic h) rfl ?_ y0 ?_
        · intro W hW
          (try dsimp only at hW)
          obtain ⟨q0, q1⟩ := hW
          go_simp
        simp only [Act.put, List.setIfInBounds_toArray, List.set_cons_zero, List.set_cons_succ]
        refine takeL (i := 5) (oi := { dst := some 26, op := Go.Op.load 3 (Go.Operand.tmp 25), type := 3, pos := "ref.go:137", after := #[{ on := 4, ground := Go.Ground.data }], guard := none }) (v := .int .i64 m) [16] rfl (by kernel_rfl) (by kernel_rfl) (by kernel_rfl) (by kernel_rfl) (fun _ _ _ h => calm_panic h) rfl ?_ y0 ?_
        · intro W hW
          (try dsimp only at hW)
          obtain ⟨q0, q1⟩ := hW
          go_simp
        simp only [Act.put, List.setIfInBounds_toArray, List.set_cons_zero, List.set_cons_succ]
        refine takeL (i := 9) (oi := { dst := some 30, op := Go.Op.move (Go.Operand.tmp 0), type := 28, pos := "ref.go:137", after := #[], guard := none }) (v := .slice (some ⟨bb, o, none⟩) len cap) [16] rfl (by kernel_rfl) (by kernel_rfl) (by kernel_rfl) (by kernel_rfl) (fun _ _ _ h => calm_panic h) rfl ?_ y0 ?_
        · intro W hW
          (try dsimp only at hW)
          obtain ⟨q0, q1⟩ := hW
          go_simp
        simp only [Act.put, List.setIfInBounds_toArray, List.set_cons_zero, List.set_cons_succ]
        refine takeL (i := 10) (oi := { dst := some 31, op := Go.Op.move (Go.Operand.tmp 6), type := 3, pos := "ref.go:137", after := #[], guard := none }) (v := .int .i64 k) [16] rfl (by kernel_rfl) (by kernel_rfl) (by kernel_rfl) (by kernel_rfl) (fun _ _ _ h => calm_panic h) rfl ?_ y0 ?_
        · intro W hW
          (try dsimp only at hW)
          obtain ⟨q0, q1⟩ := hW
          go_simp
        simp only [Act.put, List.setIfInBounds_toArray, List.set_cons_zero, List.set_cons_succ]
        refine takeL (i := 11) (oi := { dst := some 32, op := Go.Op.indexAddr 28 (Go.Operand.tmp 30) (Go.Operand.tmp 31), type := 0, pos := "ref.go:137", after := #[{ on := 9, ground := Go.Ground.data }, { on := 10, ground := Go.Ground.data }], guard := none }) (v := .pointer (some ⟨bb, o + k * 2, none⟩)) [16] rfl (by kernel_rfl) (by kernel_rfl) (by kernel_rfl) (by kernel_rfl) (fun _ _ _ h => calm_panic h) rfl ?_ y0 ?_
        · intro W hW
          (try dsimp only at hW)
          obtain ⟨q0, q1⟩ := hW
          go_simp
        simp only [Act.put, List.setIfInBounds_toArray, List.set_cons_zero, List.set_cons_succ]
        refine takeL (i := 12) (oi := { dst := some 33, op := Go.Op.fieldAddr 55 (Go.Operand.tmp 32) 1, type := 0, pos := "ref.go:137", after := #[{ on := 11, ground := Go.Ground.data }], guard := none }) (v := .pointer (some ⟨bb, o + k * 2 + 1, none⟩)) [16] rfl (by kernel_rfl) (by kernel_rfl) (by kernel_rfl) (by kernel_rfl) (fun _ _ _ h => calm_panic h) rfl ?_ y0 ?_
        · intro W hW
          (try dsimp only at hW)
          obtain ⟨q0, q1⟩ := hW
          go_simp
        simp only [Act.put, List.setIfInBounds_toArray, List.set_cons_zero, List.set_cons_succ]
        refine takeL (i := 13) (oi := { dst := some 34, op := Go.Op.load 3 (Go.Operand.tmp 33), type := 3, pos := "ref.go:137", after := #[{ on := 12, ground := Go.Ground.data }], guard := none }) (v := .int .i64 b) [16] rfl (by kernel_rfl) (by kernel_rfl) (by kernel_rfl) (by kernel_rfl) (fun _ _ _ h => calm_panic h) rfl ?_ y0 ?_
        · intro W hW
          (try dsimp only at hW)
          obtain ⟨q0, q1⟩ := hW
          go_simp
        simp only [Act.put, List.setIfInBounds_toArray, List.set_cons_zero, List.set_cons_succ]
        refine oneL (i := 6) (o := { dst := some 27, op := Go.Op.call { callee := Go.Callee.value (Go.Operand.func 21), args := #[Go.Operand.tmp 26], argTypes := #[3] }, type := 9, pos := "ref.go:137", after := #[{ on := 5, ground := Go.Ground.data }], guard := none }) rfl (by kernel_rfl) rfl ?_
        refine wp_by_call (f := 21) (args := #[.int .i64 m]) (by simp [execOp, go_sem]) ?_
        refine (digitsB_any m HMB.out.1 HMB.out.2.1 wr.drew).mono ?_
        rintro e w2 ⟨rfl, hB2'⟩
        have hB2 : Below wr.heap.size wr w2 := ⟨hB2'.os, hB2'.tape, hB2'.output, hB2'.size, hB2'.block⟩
        have y2 : w2.cell? ⟨bb, o + k * 2, none⟩ = some (.int .i64 m) ∧ w2.cell? ⟨bb, o + k * 2 + 1, none⟩ = some (.int .i64 b) := ⟨(hB2.cell (p := ⟨bb, o + k * 2, none⟩) hbw).trans c0, (hB2.cell (p := ⟨bb, o + k * 2 + 1, none⟩) hbw).trans c1⟩
        have H2 := Lib.hid hB2
        clear hB2' hB2
        refine ⟨_, rfl, fun _ => y2, ?_⟩
        simp only [Act.put, List.setIfInBounds_toArray, List.set_cons_zero, List.set_cons_succ]
        refine takeL (i := 7) (oi := { dst := some 28, op := Go.Op.binOp Go.BinOp.add 9 (Go.Operand.tmp 21) (Go.Operand.tmp 27) 9, type := 9, pos := "ref.go:137", after := #[{ on := 0, ground := Go.Ground.data }, { on := 6, ground := Go.Ground.data }], guard := none }) (v := .string ((⟨T.toArray⟩ : ByteArray) ++ ⟨(Lib.itoa m).toArray⟩)) [16] rfl (by kernel_rfl) (by kernel_rfl) (by kernel_rfl) (by kernel_rfl) (fun _ _ _ h => calm_panic h) rfl ?_ y2 ?_
        · intro W hW
          (try dsimp only at hW)
          obtain ⟨q0, q1⟩ := hW
          have hx := HLN.out
          go_simp
          omega
        simp only [Act.put, List.setIfInBounds_toArray, List.set_cons_zero, List.set_cons_succ]
        refine takeL (i := 8) (oi := { dst := some 29, op := Go.Op.binOp Go.BinOp.add 9 (Go.Operand.tmp 28) (Go.Operand.const (Go.Value.string { data := #[58] })) 9, type := 9, pos := "ref.go:137", after := #[{ on := 7, ground := Go.Ground.data }], guard := none }) (v := .string (((⟨T.toArray⟩ : ByteArray) ++ ⟨(Lib.itoa m).toArray⟩) ++ ⟨#[58]⟩)) [16] rfl (by kernel_rfl) (by kernel_rfl) (by kernel_rfl) (by kernel_rfl) (fun _ _ _ h => calm_panic h) rfl ?_ y2 ?_
        · intro W hW
          (try dsimp only at hW)
          obtain ⟨q0, q1⟩ := hW
          have hx := HLN.out
          go_simp
          omega
        simp only [Act.put, List.setIfInBounds_toArray, List.set_cons_zero, List.set_cons_succ]
        refine oneL (i := 14) (o := { dst := some 35, op := Go.Op.call { callee := Go.Callee.value (Go.Operand.func 21), args := #[Go.Operand.tmp 34], argTypes := #[3] }, type := 9, pos := "ref.go:137", after := #[{ on := 13, ground := Go.Ground.data }, { on := 6, ground := Go.Ground.chain }], guard := none }) rfl (by kernel_rfl) rfl ?_
        refine wp_by_call (f := 21) (args := #[.int .i64 b]) (by simp [execOp, go_sem]) ?_
        refine (digitsB_any b HMB.out.2.2.1 HMB.out.2.2.2 w2).mono ?_
        rintro e w3 ⟨rfl, hB3⟩
        have y3 : w3.cell? ⟨bb, o + k * 2, none⟩ = some (.int .i64 m) ∧ w3.cell? ⟨bb, o + k * 2 + 1, none⟩ = some (.int .i64 b) := ⟨(hB3.cell (p := ⟨bb, o + k * 2, none⟩) (Nat.lt_of_lt_of_le hbw H2.out.size)).trans y2.1, (hB3.cell (p := ⟨bb, o + k * 2 + 1, none⟩) (Nat.lt_of_lt_of_le hbw H2.out.size)).trans y2.2⟩
        have H3 := Lib.hid (HB.out.trans ((H2.out.trans (hB3.mono H2.out.size)).mono HB.out.size))
        clear hB3 y2 y0
        refine ⟨_, rfl, fun _ => y3, ?_⟩
        simp only [Act.put, List.setIfInBounds_toArray, List.set_cons_zero, List.set_cons_succ]
        refine takeL (i := 15) (oi := { dst := some 36, op := Go.Op.binOp Go.BinOp.add 9 (Go.Operand.tmp 29) (Go.Operand.tmp 35) 9, type := 9, pos := "ref.go:137", after := #[{ on := 8, ground := Go.Ground.data }, { on := 14, ground := Go.Ground.data }], guard := none }) (v := .string ((((⟨T.toArray⟩ : ByteArray) ++ ⟨(Lib.itoa m).toArray⟩) ++ ⟨#[58]⟩) ++ ⟨(Lib.itoa b).toArray⟩)) [16] rfl (by kernel_rfl) (by kernel_rfl) (by kernel_rfl) (by kernel_rfl) (fun _ _ _ h => calm_panic h) rfl ?_ y3 ?_
        · intro W hW
          (try dsimp only at hW)
          obtain ⟨q0, q1⟩ := hW
          have hx := HLN.out
          go_simp
          omega
        simp only [Act.put, List.setIfInBounds_toArray, List.set_cons_zero, List.set_cons_succ]
        rw [cat4 T m b]
        refine oneL (i := 16) (o := { dst := some 5, op := Go.Op.assign (Go.Operand.tmp 36), type := 9, pos := "ref.go:137", after := #[{ on := 15, ground := Go.Ground.data }, { on := 14, ground := Go.Ground.chain }, { on := 0, ground := Go.Ground.phase }, { on := 1, ground := Go.Ground.phase }, { on := 2, ground := Go.Ground.phase }, { on := 3, ground := Go.Ground.phase }, { on := 4, ground := Go.Ground.phase }, { on := 5, ground := Go.Ground.phase }, { on := 6, ground := Go.Ground.phase }, { on := 7, ground := Go.Ground.phase }, { on := 8, ground := Go.Ground.phase }, { on := 9, ground := Go.Ground.phase }, { on := 10, ground := Go.Ground.phase }, { on := 11, ground := Go.Ground.phase }, { on := 12, ground := Go.Ground.phase }, { on := 13, ground := Go.Ground.phase }, { on := 14, ground := Go.Ground.phase }, { on := 15, ground := Go.Ground.phase }], guard := none }) rfl (by kernel_rfl) rfl ?_
        refine wp_by_run (v := strL (T ++ Lib.itoa m ++ [58] ++ Lib.itoa b)) (w' := w3) (by go_simp) ?_
        refine ⟨fun h => absurd rfl h, ?_⟩
        simp only [Act.put, List.setIfInBounds_toArray, List.set_cons_zero, List.set_cons_succ]
        refine doneL (by kernel_rfl) (Calm.normal ?_) _
        clear y3 c0 c1
        go_wp2
        go_roundw
        case rel => exact ⟨k + 1, by omega, by go_num, by rw [HF.out], H3.out⟩
        case measure => first | (simp [intOf]; done) | (simp [intOf]; omega)
    · have hke : k = len := by omega
      subst hke
      have HE := Lib.hid (show textL (swsOf L k) = textF L k from text_firsts L k)
      go_wp2
      go_ret2
      rw [HE.out]
      exact ⟨rfl, HB.out⟩
end Go.Proofs.YtmbimnphdhmapaaDoor
