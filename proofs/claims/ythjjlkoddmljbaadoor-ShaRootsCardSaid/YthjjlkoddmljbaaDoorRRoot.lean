/- The law's root: it tells the first 32 bits behind the point of a root. -/
import Derived.Test.YthjjlkoddmljbaaDoorRPower
set_option linter.unusedVariables false
set_option linter.unusedSimpArgs false
namespace Go.Proofs.YthjjlkoddmljbaaDoor.Ref
open Go.RowKit
theorem load_num_g {ops : Array Oper} {rest : List Oper} {o : Oper} {a : Act} {w : World} {Q : Exit → Act → World → Prop} {x : Operand} {g : Nat} {neg : Bool} {f : Nat → Int} (hg : At w g (num neg f))
    (hw : Region.wanted o (yielded ops a.tmps) = true) (ho : o.op = .load 73 x) (hx : a.eval x = .pointer (some ⟨g, 0, none⟩))
    (h : wpList Tryd.prog ops Q rest (a.put o.dst (.agg (num neg f))) w) : wpList Tryd.prog ops Q (o :: rest) a w := by
  unfold wpList
  rw [if_pos hw]
  exact .inl (wp_load_row 73 x ho g hx _ _ _ _ hg Tryd.underlying73 rfl (size42 _ _) h)
theorem stand_le {a b : Nat} : stand a b ≤ 0 ↔ a ≤ b := by unfold stand; split <;> (try split) <;> omega
theorem stand_neg {a b : Nat} : stand a b < 0 ↔ a < b := by unfold stand; split <;> (try split) <;> omega
theorem low_or (i word : Nat) (hi : i < 20) (hw : word < 4294967296) : bits .or .u64 ((i : Int) * 4294967296) (word : Int) = ((i * 4294967296 + word : Nat) : Int) := by
  rw [bits_join .u64 64 (by decide) (fun n a b => by rw [IntKind.wrap_u64]; omega) 32 _ _ (by omega) (by omega) (by omega) (by omega) (by omega) (by omega)]; omega
/-- The number with i ahead of the point and these bits behind it is the root of p, cut. -/
def okR (p : Nat) (cube : Bool) (word i : Nat) : Prop :=
  if cube = true then (i * 4294967296 + word) * (i * 4294967296 + word) * (i * 4294967296 + word) ≤ p * 2 ^ 96 ∧ p * 2 ^ 96 < (i * 4294967296 + word + 1) * (i * 4294967296 + word + 1) * (i * 4294967296 + word + 1)
  else (i * 4294967296 + word) * (i * 4294967296 + word) ≤ p * 2 ^ 64 ∧ p * 2 ^ 64 < (i * 4294967296 + word + 1) * (i * 4294967296 + word + 1)
set_option maxRecDepth 10000 in
set_option maxHeartbeats 4000000 in
theorem root_false (p word i0 : Nat) (hp : p ≤ 1000) (hw : word < 4294967296) (h1 : 1 ≤ i0) (h20 : i0 < 20) (hok : okR p false word i0) (w : World) :
    Calls Tryd.prog 21 #[.int .u64 p, .bool false, .int .u32 word] w fun e w' => e = .returned (.bool true) ∧ Below w.heap.size w w' := by
  have hz := (zero_of_info info42).1
  have HOK := Lib.hid hok
  clear hok
  go_enter Tryd.func21, Tryd.ntmps21
  go_wp2
  go_loopw [7] (fun iv wr => ∃ i : Nat, 1 ≤ i ∧ i ≤ i0 ∧ iv = .int .u64 i ∧ Below w.heap.size w wr) (fun iv _ => 20 - (intOf iv).toNat)
  case atStart => exact ⟨1, by omega, by omega, by go_num, Below.refl _ w⟩
  case round =>
    obtain ⟨i, hi1, hi0, rfl, hB⟩ := hrel
    have HB := Lib.hid hB
    have hor := low_or i word (by omega) hw
    have hi20 : (i : Int) < 20 := by omega
    obtain ⟨X, hX⟩ : ∃ X, i * 4294967296 + word = X := ⟨_, rfl⟩
    rw [hX] at hor
    have hXb : X ≤ 137438953471 := by omega
    have HX := Lib.hid hX
    have HOKX := Lib.hid (show i = i0 → okR p false word i from fun e => e ▸ HOK.out)
    clear hX hB
    go_wp2_with fail
    obtain ⟨A, hA⟩ : ∃ A, X * X = A := ⟨_, rfl⟩
    obtain ⟨B, hBB⟩ : ∃ B, (X + 1) * (X + 1) = B := ⟨_, rfl⟩
    have hAb : A ≤ 137438953471 * 137438953471 := by rw [← hA]; exact Nat.mul_le_mul hXb hXb
    have hBb : B ≤ 137438953472 * 137438953472 := by rw [← hBB]; exact Nat.mul_le_mul (by omega) (by omega)
    obtain ⟨C, hC⟩ : ∃ C, p * 2 ^ 64 = C := ⟨_, rfl⟩
    have hCb : C ≤ 1000 * 2 ^ 64 := by rw [← hC]; exact Nat.mul_le_mul hp (Nat.le_refl _)
    have hc := of_any X wr (by omega)
    refine hc.mono ?_
    rintro e wa8 ⟨rfl, hB8⟩
    obtain ⟨wb8, ew8, n8, keep8, hC8⟩ := fresh wa8 false (bitf X)
    have M8 := Lib.hid (At.new wa8 zeroNum)
    have EW8 := Lib.hid ew8
    have s8 : w.heap.size ≤ wa8.heap.size := Nat.le_trans HB.out.size hB8.size
    have HB := Lib.hid (HB.out.trans ((hB8.trans (hC8.mono hB8.size)).mono HB.out.size))
    have N8 := Lib.hid n8
    clear hB8 hC8 keep8 n8 ew8 hc
    go_wp2_with (first | (refine store_num (neg := false) (f := bitf X) (f' := fun _ => 0) M8.out rfl rfl rfl rfl ?_; rw [EW8.out]) | (refine load_num N8.out rfl rfl rfl ?_) | (refine load_num_g N8.out (by rfl) rfl rfl ?_) | fail)
    have hc := of_any (X + 1) wb8 (by omega)
    rw [show ((X + 1 : Nat) : Int) = (X : Int) + 1 from rfl] at hc
    refine hc.mono ?_
    rintro e wa9 ⟨rfl, hB9⟩
    obtain ⟨wb9, ew9, n9, keep9, hC9⟩ := fresh wa9 false (bitf (X + 1))
    have M9 := Lib.hid (At.new wa9 zeroNum)
    have EW9 := Lib.hid ew9
    have l8_wa9 : wa8.heap.size < wa9.heap.size := Nat.lt_of_lt_of_le N8.out.lt hB9.size
    have N8 := Lib.hid (keep9 _ _ (N8.out.below N8.out.lt hB9))
    have s9 : w.heap.size ≤ wa9.heap.size := Nat.le_trans HB.out.size hB9.size
    have HB := Lib.hid (HB.out.trans ((hB9.trans (hC9.mono hB9.size)).mono HB.out.size))
    have N9 := Lib.hid n9
    clear hB9 hC9 keep9 n9 ew9 hc
    go_wp2_with (first | (refine store_num (neg := false) (f := bitf (X + 1)) (f' := fun _ => 0) M9.out rfl rfl rfl rfl ?_; rw [EW9.out]) | (refine load_num N8.out rfl rfl rfl ?_) | (refine load_num_g N8.out (by rfl) rfl rfl ?_) | (refine load_num N9.out rfl rfl rfl ?_) | (refine load_num_g N9.out (by rfl) rfl rfl ?_) | fail)
    have hc := times_core false false X X (by omega) (by omega) wb9
    simp only [bne_self_eq_false, Bool.false_and] at hc
    rw [hA] at hc
    refine hc.mono ?_
    rintro e wa10 ⟨rfl, hB10⟩
    obtain ⟨wb10, ew10, n10, keep10, hC10⟩ := fresh wa10 false (bitf A)
    have M10 := Lib.hid (At.new wa10 zeroNum)
    have EW10 := Lib.hid ew10
    have l8_wa10 : wa8.heap.size < wa10.heap.size := Nat.lt_of_lt_of_le N8.out.lt hB10.size
    have N8 := Lib.hid (keep10 _ _ (N8.out.below N8.out.lt hB10))
    have l9_wa10 : wa9.heap.size < wa10.heap.size := Nat.lt_of_lt_of_le N9.out.lt hB10.size
    have N9 := Lib.hid (keep10 _ _ (N9.out.below N9.out.lt hB10))
    have s10 : w.heap.size ≤ wa10.heap.size := Nat.le_trans HB.out.size hB10.size
    have HB := Lib.hid (HB.out.trans ((hB10.trans (hC10.mono hB10.size)).mono HB.out.size))
    have N10 := Lib.hid n10
    clear hB10 hC10 keep10 n10 ew10 hc
    go_wp2_with (first | (refine store_num (neg := false) (f := bitf A) (f' := fun _ => 0) M10.out rfl rfl rfl rfl ?_; rw [EW10.out]) | (refine load_num N8.out rfl rfl rfl ?_) | (refine load_num_g N8.out (by rfl) rfl rfl ?_) | (refine load_num N9.out rfl rfl rfl ?_) | (refine load_num_g N9.out (by rfl) rfl rfl ?_) | (refine load_num N10.out rfl rfl rfl ?_) | (refine load_num_g N10.out (by rfl) rfl rfl ?_) | fail)
    have hc := times_core false false (X + 1) (X + 1) (by omega) (by omega) wb10
    simp only [bne_self_eq_false, Bool.false_and] at hc
    rw [hBB] at hc
    refine hc.mono ?_
    rintro e wa11 ⟨rfl, hB11⟩
    obtain ⟨wb11, ew11, n11, keep11, hC11⟩ := fresh wa11 false (bitf B)
    have M11 := Lib.hid (At.new wa11 zeroNum)
    have EW11 := Lib.hid ew11
    have l8_wa11 : wa8.heap.size < wa11.heap.size := Nat.lt_of_lt_of_le N8.out.lt hB11.size
    have N8 := Lib.hid (keep11 _ _ (N8.out.below N8.out.lt hB11))
    have l9_wa11 : wa9.heap.size < wa11.heap.size := Nat.lt_of_lt_of_le N9.out.lt hB11.size
    have N9 := Lib.hid (keep11 _ _ (N9.out.below N9.out.lt hB11))
    have l10_wa11 : wa10.heap.size < wa11.heap.size := Nat.lt_of_lt_of_le N10.out.lt hB11.size
    have N10 := Lib.hid (keep11 _ _ (N10.out.below N10.out.lt hB11))
    have s11 : w.heap.size ≤ wa11.heap.size := Nat.le_trans HB.out.size hB11.size
    have HB := Lib.hid (HB.out.trans ((hB11.trans (hC11.mono hB11.size)).mono HB.out.size))
    have N11 := Lib.hid n11
    clear hB11 hC11 keep11 n11 ew11 hc
    go_wp2_with (first | (refine store_num (neg := false) (f := bitf B) (f' := fun _ => 0) M11.out rfl rfl rfl rfl ?_; rw [EW11.out]) | (refine load_num N8.out rfl rfl rfl ?_) | (refine load_num_g N8.out (by rfl) rfl rfl ?_) | (refine load_num N9.out rfl rfl rfl ?_) | (refine load_num_g N9.out (by rfl) rfl rfl ?_) | (refine load_num N10.out rfl rfl rfl ?_) | (refine load_num_g N10.out (by rfl) rfl rfl ?_) | (refine load_num N11.out rfl rfl rfl ?_) | (refine load_num_g N11.out (by rfl) rfl rfl ?_) | fail)
    have hc := power_any p 64 (by omega) (by omega) wb11
    rw [hC] at hc
    refine hc.mono ?_
    rintro e wa12 ⟨rfl, hB12⟩
    obtain ⟨wb12, ew12, n12, keep12, hC12⟩ := fresh wa12 false (bitf C)
    have M12 := Lib.hid (At.new wa12 zeroNum)
    have EW12 := Lib.hid ew12
    have l8_wa12 : wa8.heap.size < wa12.heap.size := Nat.lt_of_lt_of_le N8.out.lt hB12.size
    have N8 := Lib.hid (keep12 _ _ (N8.out.below N8.out.lt hB12))
    have l9_wa12 : wa9.heap.size < wa12.heap.size := Nat.lt_of_lt_of_le N9.out.lt hB12.size
    have N9 := Lib.hid (keep12 _ _ (N9.out.below N9.out.lt hB12))
    have l10_wa12 : wa10.heap.size < wa12.heap.size := Nat.lt_of_lt_of_le N10.out.lt hB12.size
    have N10 := Lib.hid (keep12 _ _ (N10.out.below N10.out.lt hB12))
    have l11_wa12 : wa11.heap.size < wa12.heap.size := Nat.lt_of_lt_of_le N11.out.lt hB12.size
    have N11 := Lib.hid (keep12 _ _ (N11.out.below N11.out.lt hB12))
    have s12 : w.heap.size ≤ wa12.heap.size := Nat.le_trans HB.out.size hB12.size
    have HB := Lib.hid (HB.out.trans ((hB12.trans (hC12.mono hB12.size)).mono HB.out.size))
    have N12 := Lib.hid n12
    clear hB12 hC12 keep12 n12 ew12 hc
    go_wp2_with (first | (refine store_num (neg := false) (f := bitf C) (f' := fun _ => 0) M12.out rfl rfl rfl rfl ?_; rw [EW12.out]) | (refine load_num N8.out rfl rfl rfl ?_) | (refine load_num_g N8.out (by rfl) rfl rfl ?_) | (refine load_num N9.out rfl rfl rfl ?_) | (refine load_num_g N9.out (by rfl) rfl rfl ?_) | (refine load_num N10.out rfl rfl rfl ?_) | (refine load_num_g N10.out (by rfl) rfl rfl ?_) | (refine load_num N11.out rfl rfl rfl ?_) | (refine load_num_g N11.out (by rfl) rfl rfl ?_) | (refine load_num N12.out rfl rfl rfl ?_) | (refine load_num_g N12.out (by rfl) rfl rfl ?_) | fail)
    have hc := bare_any false false A C (by omega) (by omega) wb12
    refine hc.mono ?_
    rintro e wc ⟨rfl, hBc⟩
    have l8_wc : wa8.heap.size < wc.heap.size := Nat.lt_of_lt_of_le N8.out.lt hBc.size
    have N8 := Lib.hid (N8.out.below N8.out.lt hBc)
    have l9_wc : wa9.heap.size < wc.heap.size := Nat.lt_of_lt_of_le N9.out.lt hBc.size
    have N9 := Lib.hid (N9.out.below N9.out.lt hBc)
    have l10_wc : wa10.heap.size < wc.heap.size := Nat.lt_of_lt_of_le N10.out.lt hBc.size
    have N10 := Lib.hid (N10.out.below N10.out.lt hBc)
    have l11_wc : wa11.heap.size < wc.heap.size := Nat.lt_of_lt_of_le N11.out.lt hBc.size
    have N11 := Lib.hid (N11.out.below N11.out.lt hBc)
    have l12_wc : wa12.heap.size < wc.heap.size := Nat.lt_of_lt_of_le N12.out.lt hBc.size
    have N12 := Lib.hid (N12.out.below N12.out.lt hBc)
    have HB := Lib.hid (HB.out.trans (hBc.mono HB.out.size))
    clear hc hBc
    have hok2 : i = i0 → A ≤ C ∧ C < B := fun e => by have h := HOKX.out e; unfold okR at h; rw [if_neg (by decide), HX.out, hA, hBB, hC] at h; exact h
    have HOK2 := Lib.hid hok2
    clear hok2 hA hBB hC
    by_cases c1 : A ≤ C
    · have hd1 : decide (stand A C ≤ 0) = true := by simpa using stand_le.2 c1
      go_wp2_with (first | (refine load_num N8.out rfl rfl rfl ?_) | (refine load_num_g N8.out (by rfl) rfl rfl ?_) | (refine load_num N9.out rfl rfl rfl ?_) | (refine load_num_g N9.out (by rfl) rfl rfl ?_) | (refine load_num N10.out rfl rfl rfl ?_) | (refine load_num_g N10.out (by rfl) rfl rfl ?_) | (refine load_num N11.out rfl rfl rfl ?_) | (refine load_num_g N11.out (by rfl) rfl rfl ?_) | (refine load_num N12.out rfl rfl rfl ?_) | (refine load_num_g N12.out (by rfl) rfl rfl ?_) | fail)
      refine (bare_any false false C B (by omega) (by omega) wc).mono ?_
      rintro e wd ⟨rfl, hBd⟩
      have HD := Lib.hid (HB.out.trans (hBd.mono HB.out.size))
      by_cases c2 : C < B
      · have hd2 : decide (stand C B < 0) = true := by simpa using stand_neg.2 c2
        go_wp2
        go_ret
        exact ⟨rfl, HD.out⟩
      · have hd2 : decide (stand C B < 0) = false := by simpa using fun h => c2 (stand_neg.1 h)
        have hne : i ≠ i0 := fun e => c2 (HOK2.out e).2
        go_wp2
        go_roundw
        case rel => exact ⟨i + 1, by omega, by omega, by go_num, HD.out⟩
        case measure => simp [intOf]; omega
    · have hd1 : decide (stand A C ≤ 0) = false := by simpa using fun h => c1 (stand_le.1 h)
      have hne : i ≠ i0 := fun e => c1 (HOK2.out e).1
      go_wp2
      go_roundw
      case rel => exact ⟨i + 1, by omega, by omega, by go_num, HB.out⟩
      case measure => simp [intOf]; omega
set_option maxRecDepth 10000 in
set_option maxHeartbeats 4000000 in
theorem root_true (p word i0 : Nat) (hp : p ≤ 1000) (hw : word < 4294967296) (h1 : 1 ≤ i0) (h20 : i0 < 20) (hok : okR p true word i0) (w : World) :
    Calls Tryd.prog 21 #[.int .u64 p, .bool true, .int .u32 word] w fun e w' => e = .returned (.bool true) ∧ Below w.heap.size w w' := by
  have hz := (zero_of_info info42).1
  have HOK := Lib.hid hok
  clear hok
  go_enter Tryd.func21, Tryd.ntmps21
  go_wp2
  go_loopw [7] (fun iv wr => ∃ i : Nat, 1 ≤ i ∧ i ≤ i0 ∧ iv = .int .u64 i ∧ Below w.heap.size w wr) (fun iv _ => 20 - (intOf iv).toNat)
  case atStart => exact ⟨1, by omega, by omega, by go_num, Below.refl _ w⟩
  case round =>
    obtain ⟨i, hi1, hi0, rfl, hB⟩ := hrel
    have HB := Lib.hid hB
    have hor := low_or i word (by omega) hw
    have hi20 : (i : Int) < 20 := by omega
    obtain ⟨X, hX⟩ : ∃ X, i * 4294967296 + word = X := ⟨_, rfl⟩
    rw [hX] at hor
    have hXb : X ≤ 137438953471 := by omega
    have HX := Lib.hid hX
    have HOKX := Lib.hid (show i = i0 → okR p true word i from fun e => e ▸ HOK.out)
    clear hX hB
    go_wp2_with fail
    obtain ⟨A, hA⟩ : ∃ A, X * X = A := ⟨_, rfl⟩
    obtain ⟨B, hBB⟩ : ∃ B, (X + 1) * (X + 1) = B := ⟨_, rfl⟩
    have hAb : A ≤ 137438953471 * 137438953471 := by rw [← hA]; exact Nat.mul_le_mul hXb hXb
    have hBb : B ≤ 137438953472 * 137438953472 := by rw [← hBB]; exact Nat.mul_le_mul (by omega) (by omega)
    obtain ⟨C, hC⟩ : ∃ C, p * 2 ^ 64 = C := ⟨_, rfl⟩
    have hCb : C ≤ 1000 * 2 ^ 64 := by rw [← hC]; exact Nat.mul_le_mul hp (Nat.le_refl _)
    obtain ⟨A3, hA3⟩ : ∃ A3, A * X = A3 := ⟨_, rfl⟩
    obtain ⟨B3, hB3⟩ : ∃ B3, B * (X + 1) = B3 := ⟨_, rfl⟩
    have hA3b : A3 ≤ 137438953471 * 137438953471 * 137438953471 := by rw [← hA3]; exact Nat.mul_le_mul hAb hXb
    have hB3b : B3 ≤ 137438953472 * 137438953472 * 137438953472 := by rw [← hB3]; exact Nat.mul_le_mul hBb (by omega)
    obtain ⟨C3, hC3⟩ : ∃ C3, p * 2 ^ 96 = C3 := ⟨_, rfl⟩
    have hC3b : C3 ≤ 1000 * 2 ^ 96 := by rw [← hC3]; exact Nat.mul_le_mul hp (Nat.le_refl _)
    have hc := of_any X wr (by omega)
    refine hc.mono ?_
    rintro e wa8 ⟨rfl, hB8⟩
    obtain ⟨wb8, ew8, n8, keep8, hC8⟩ := fresh wa8 false (bitf X)
    have M8 := Lib.hid (At.new wa8 zeroNum)
    have EW8 := Lib.hid ew8
    have s8 : w.heap.size ≤ wa8.heap.size := Nat.le_trans HB.out.size hB8.size
    have HB := Lib.hid (HB.out.trans ((hB8.trans (hC8.mono hB8.size)).mono HB.out.size))
    have N8 := Lib.hid n8
    clear hB8 hC8 keep8 n8 ew8 hc
    go_wp2_with (first | (refine store_num (neg := false) (f := bitf X) (f' := fun _ => 0) M8.out rfl rfl rfl rfl ?_; rw [EW8.out]) | (refine load_num N8.out rfl rfl rfl ?_) | (refine load_num_g N8.out (by rfl) rfl rfl ?_) | fail)
    have hc := of_any (X + 1) wb8 (by omega)
    rw [show ((X + 1 : Nat) : Int) = (X : Int) + 1 from rfl] at hc
    refine hc.mono ?_
    rintro e wa9 ⟨rfl, hB9⟩
    obtain ⟨wb9, ew9, n9, keep9, hC9⟩ := fresh wa9 false (bitf (X + 1))
    have M9 := Lib.hid (At.new wa9 zeroNum)
    have EW9 := Lib.hid ew9
    have l8_wa9 : wa8.heap.size < wa9.heap.size := Nat.lt_of_lt_of_le N8.out.lt hB9.size
    have N8 := Lib.hid (keep9 _ _ (N8.out.below N8.out.lt hB9))
    have s9 : w.heap.size ≤ wa9.heap.size := Nat.le_trans HB.out.size hB9.size
    have HB := Lib.hid (HB.out.trans ((hB9.trans (hC9.mono hB9.size)).mono HB.out.size))
    have N9 := Lib.hid n9
    clear hB9 hC9 keep9 n9 ew9 hc
    go_wp2_with (first | (refine store_num (neg := false) (f := bitf (X + 1)) (f' := fun _ => 0) M9.out rfl rfl rfl rfl ?_; rw [EW9.out]) | (refine load_num N8.out rfl rfl rfl ?_) | (refine load_num_g N8.out (by rfl) rfl rfl ?_) | (refine load_num N9.out rfl rfl rfl ?_) | (refine load_num_g N9.out (by rfl) rfl rfl ?_) | fail)
    have hc := times_core false false X X (by omega) (by omega) wb9
    simp only [bne_self_eq_false, Bool.false_and] at hc
    rw [hA] at hc
    refine hc.mono ?_
    rintro e wa10 ⟨rfl, hB10⟩
    obtain ⟨wb10, ew10, n10, keep10, hC10⟩ := fresh wa10 false (bitf A)
    have M10 := Lib.hid (At.new wa10 zeroNum)
    have EW10 := Lib.hid ew10
    have l8_wa10 : wa8.heap.size < wa10.heap.size := Nat.lt_of_lt_of_le N8.out.lt hB10.size
    have N8 := Lib.hid (keep10 _ _ (N8.out.below N8.out.lt hB10))
    have l9_wa10 : wa9.heap.size < wa10.heap.size := Nat.lt_of_lt_of_le N9.out.lt hB10.size
    have N9 := Lib.hid (keep10 _ _ (N9.out.below N9.out.lt hB10))
    have s10 : w.heap.size ≤ wa10.heap.size := Nat.le_trans HB.out.size hB10.size
    have HB := Lib.hid (HB.out.trans ((hB10.trans (hC10.mono hB10.size)).mono HB.out.size))
    have N10 := Lib.hid n10
    clear hB10 hC10 keep10 n10 ew10 hc
    go_wp2_with (first | (refine store_num (neg := false) (f := bitf A) (f' := fun _ => 0) M10.out rfl rfl rfl rfl ?_; rw [EW10.out]) | (refine load_num N8.out rfl rfl rfl ?_) | (refine load_num_g N8.out (by rfl) rfl rfl ?_) | (refine load_num N9.out rfl rfl rfl ?_) | (refine load_num_g N9.out (by rfl) rfl rfl ?_) | (refine load_num N10.out rfl rfl rfl ?_) | (refine load_num_g N10.out (by rfl) rfl rfl ?_) | fail)
    have hc := times_core false false (X + 1) (X + 1) (by omega) (by omega) wb10
    simp only [bne_self_eq_false, Bool.false_and] at hc
    rw [hBB] at hc
    refine hc.mono ?_
    rintro e wa11 ⟨rfl, hB11⟩
    obtain ⟨wb11, ew11, n11, keep11, hC11⟩ := fresh wa11 false (bitf B)
    have M11 := Lib.hid (At.new wa11 zeroNum)
    have EW11 := Lib.hid ew11
    have l8_wa11 : wa8.heap.size < wa11.heap.size := Nat.lt_of_lt_of_le N8.out.lt hB11.size
    have N8 := Lib.hid (keep11 _ _ (N8.out.below N8.out.lt hB11))
    have l9_wa11 : wa9.heap.size < wa11.heap.size := Nat.lt_of_lt_of_le N9.out.lt hB11.size
    have N9 := Lib.hid (keep11 _ _ (N9.out.below N9.out.lt hB11))
    have l10_wa11 : wa10.heap.size < wa11.heap.size := Nat.lt_of_lt_of_le N10.out.lt hB11.size
    have N10 := Lib.hid (keep11 _ _ (N10.out.below N10.out.lt hB11))
    have s11 : w.heap.size ≤ wa11.heap.size := Nat.le_trans HB.out.size hB11.size
    have HB := Lib.hid (HB.out.trans ((hB11.trans (hC11.mono hB11.size)).mono HB.out.size))
    have N11 := Lib.hid n11
    clear hB11 hC11 keep11 n11 ew11 hc
    go_wp2_with (first | (refine store_num (neg := false) (f := bitf B) (f' := fun _ => 0) M11.out rfl rfl rfl rfl ?_; rw [EW11.out]) | (refine load_num N8.out rfl rfl rfl ?_) | (refine load_num_g N8.out (by rfl) rfl rfl ?_) | (refine load_num N9.out rfl rfl rfl ?_) | (refine load_num_g N9.out (by rfl) rfl rfl ?_) | (refine load_num N10.out rfl rfl rfl ?_) | (refine load_num_g N10.out (by rfl) rfl rfl ?_) | (refine load_num N11.out rfl rfl rfl ?_) | (refine load_num_g N11.out (by rfl) rfl rfl ?_) | fail)
    have hc := power_any p 64 (by omega) (by omega) wb11
    rw [hC] at hc
    refine hc.mono ?_
    rintro e wa12 ⟨rfl, hB12⟩
    obtain ⟨wb12, ew12, n12, keep12, hC12⟩ := fresh wa12 false (bitf C)
    have M12 := Lib.hid (At.new wa12 zeroNum)
    have EW12 := Lib.hid ew12
    have l8_wa12 : wa8.heap.size < wa12.heap.size := Nat.lt_of_lt_of_le N8.out.lt hB12.size
    have N8 := Lib.hid (keep12 _ _ (N8.out.below N8.out.lt hB12))
    have l9_wa12 : wa9.heap.size < wa12.heap.size := Nat.lt_of_lt_of_le N9.out.lt hB12.size
    have N9 := Lib.hid (keep12 _ _ (N9.out.below N9.out.lt hB12))
    have l10_wa12 : wa10.heap.size < wa12.heap.size := Nat.lt_of_lt_of_le N10.out.lt hB12.size
    have N10 := Lib.hid (keep12 _ _ (N10.out.below N10.out.lt hB12))
    have l11_wa12 : wa11.heap.size < wa12.heap.size := Nat.lt_of_lt_of_le N11.out.lt hB12.size
    have N11 := Lib.hid (keep12 _ _ (N11.out.below N11.out.lt hB12))
    have s12 : w.heap.size ≤ wa12.heap.size := Nat.le_trans HB.out.size hB12.size
    have HB := Lib.hid (HB.out.trans ((hB12.trans (hC12.mono hB12.size)).mono HB.out.size))
    have N12 := Lib.hid n12
    clear hB12 hC12 keep12 n12 ew12 hc
    go_wp2_with (first | (refine store_num (neg := false) (f := bitf C) (f' := fun _ => 0) M12.out rfl rfl rfl rfl ?_; rw [EW12.out]) | (refine load_num N8.out rfl rfl rfl ?_) | (refine load_num_g N8.out (by rfl) rfl rfl ?_) | (refine load_num N9.out rfl rfl rfl ?_) | (refine load_num_g N9.out (by rfl) rfl rfl ?_) | (refine load_num N10.out rfl rfl rfl ?_) | (refine load_num_g N10.out (by rfl) rfl rfl ?_) | (refine load_num N11.out rfl rfl rfl ?_) | (refine load_num_g N11.out (by rfl) rfl rfl ?_) | (refine load_num N12.out rfl rfl rfl ?_) | (refine load_num_g N12.out (by rfl) rfl rfl ?_) | fail)
    have hc := times_core false false A X (by omega) (by omega) wb12
    simp only [bne_self_eq_false, Bool.false_and] at hc
    rw [hA3] at hc
    refine hc.mono ?_
    rintro e wd10 ⟨rfl, hBwd10⟩
    have l8_wd10 : wa8.heap.size < wd10.heap.size := Nat.lt_of_lt_of_le N8.out.lt hBwd10.size
    have N8 := Lib.hid (N8.out.below N8.out.lt hBwd10)
    have l9_wd10 : wa9.heap.size < wd10.heap.size := Nat.lt_of_lt_of_le N9.out.lt hBwd10.size
    have N9 := Lib.hid (N9.out.below N9.out.lt hBwd10)
    have l10_wd10 : wa10.heap.size < wd10.heap.size := Nat.lt_of_lt_of_le N10.out.lt hBwd10.size
    have N10 := Lib.hid (N10.out.below N10.out.lt hBwd10)
    have l11_wd10 : wa11.heap.size < wd10.heap.size := Nat.lt_of_lt_of_le N11.out.lt hBwd10.size
    have N11 := Lib.hid (N11.out.below N11.out.lt hBwd10)
    have l12_wd10 : wa12.heap.size < wd10.heap.size := Nat.lt_of_lt_of_le N12.out.lt hBwd10.size
    have N12 := Lib.hid (N12.out.below N12.out.lt hBwd10)
    have HB := Lib.hid (below_row (HB.out.trans (hBwd10.mono HB.out.size)) s10 (num false (bitf A3)))
    have O10 := Lib.hid N10.out
    have N8 := Lib.hid (N8.out.rowOther (num false (bitf A3)) (by omega : wa8.heap.size ≠ wa10.heap.size))
    have N9 := Lib.hid (N9.out.rowOther (num false (bitf A3)) (by omega : wa9.heap.size ≠ wa10.heap.size))
    have N10 := Lib.hid (N10.out.row (cs' := num false (bitf A3)))
    have N11 := Lib.hid (N11.out.rowOther (num false (bitf A3)) (by omega : wa11.heap.size ≠ wa10.heap.size))
    have N12 := Lib.hid (N12.out.rowOther (num false (bitf A3)) (by omega : wa12.heap.size ≠ wa10.heap.size))
    clear hBwd10 hc
    go_wp2_with (first | (refine store_num (neg := false) (f := bitf A3) O10.out rfl rfl rfl rfl ?_) | (refine load_num N8.out rfl rfl rfl ?_) | (refine load_num_g N8.out (by rfl) rfl rfl ?_) | (refine load_num N9.out rfl rfl rfl ?_) | (refine load_num_g N9.out (by rfl) rfl rfl ?_) | (refine load_num N10.out rfl rfl rfl ?_) | (refine load_num_g N10.out (by rfl) rfl rfl ?_) | (refine load_num N11.out rfl rfl rfl ?_) | (refine load_num_g N11.out (by rfl) rfl rfl ?_) | (refine load_num N12.out rfl rfl rfl ?_) | (refine load_num_g N12.out (by rfl) rfl rfl ?_) | fail)
    have hc := times_core false false B (X + 1) (by omega) (by omega) (wd10.setRow wa10.heap.size (num false (bitf A3)))
    simp only [bne_self_eq_false, Bool.false_and] at hc
    rw [hB3] at hc
    refine hc.mono ?_
    rintro e wd11 ⟨rfl, hBwd11⟩
    have l8_wd11 : wa8.heap.size < wd11.heap.size := Nat.lt_of_lt_of_le N8.out.lt hBwd11.size
    have N8 := Lib.hid (N8.out.below N8.out.lt hBwd11)
    have l9_wd11 : wa9.heap.size < wd11.heap.size := Nat.lt_of_lt_of_le N9.out.lt hBwd11.size
    have N9 := Lib.hid (N9.out.below N9.out.lt hBwd11)
    have l10_wd11 : wa10.heap.size < wd11.heap.size := Nat.lt_of_lt_of_le N10.out.lt hBwd11.size
    have N10 := Lib.hid (N10.out.below N10.out.lt hBwd11)
    have l11_wd11 : wa11.heap.size < wd11.heap.size := Nat.lt_of_lt_of_le N11.out.lt hBwd11.size
    have N11 := Lib.hid (N11.out.below N11.out.lt hBwd11)
    have l12_wd11 : wa12.heap.size < wd11.heap.size := Nat.lt_of_lt_of_le N12.out.lt hBwd11.size
    have N12 := Lib.hid (N12.out.below N12.out.lt hBwd11)
    have HB := Lib.hid (below_row (HB.out.trans (hBwd11.mono HB.out.size)) s11 (num false (bitf B3)))
    have O11 := Lib.hid N11.out
    have N8 := Lib.hid (N8.out.rowOther (num false (bitf B3)) (by omega : wa8.heap.size ≠ wa11.heap.size))
    have N9 := Lib.hid (N9.out.rowOther (num false (bitf B3)) (by omega : wa9.heap.size ≠ wa11.heap.size))
    have N10 := Lib.hid (N10.out.rowOther (num false (bitf B3)) (by omega : wa10.heap.size ≠ wa11.heap.size))
    have N11 := Lib.hid (N11.out.row (cs' := num false (bitf B3)))
    have N12 := Lib.hid (N12.out.rowOther (num false (bitf B3)) (by omega : wa12.heap.size ≠ wa11.heap.size))
    clear hBwd11 hc
    go_wp2_with (first | (refine store_num (neg := false) (f := bitf B3) O11.out rfl rfl rfl rfl ?_) | (refine load_num N8.out rfl rfl rfl ?_) | (refine load_num_g N8.out (by rfl) rfl rfl ?_) | (refine load_num N9.out rfl rfl rfl ?_) | (refine load_num_g N9.out (by rfl) rfl rfl ?_) | (refine load_num N10.out rfl rfl rfl ?_) | (refine load_num_g N10.out (by rfl) rfl rfl ?_) | (refine load_num N11.out rfl rfl rfl ?_) | (refine load_num_g N11.out (by rfl) rfl rfl ?_) | (refine load_num N12.out rfl rfl rfl ?_) | (refine load_num_g N12.out (by rfl) rfl rfl ?_) | fail)
    have hc := power_any p 96 (by omega) (by omega) (wd11.setRow wa11.heap.size (num false (bitf B3)))
    rw [hC3] at hc
    refine hc.mono ?_
    rintro e wd12 ⟨rfl, hBwd12⟩
    have l8_wd12 : wa8.heap.size < wd12.heap.size := Nat.lt_of_lt_of_le N8.out.lt hBwd12.size
    have N8 := Lib.hid (N8.out.below N8.out.lt hBwd12)
    have l9_wd12 : wa9.heap.size < wd12.heap.size := Nat.lt_of_lt_of_le N9.out.lt hBwd12.size
    have N9 := Lib.hid (N9.out.below N9.out.lt hBwd12)
    have l10_wd12 : wa10.heap.size < wd12.heap.size := Nat.lt_of_lt_of_le N10.out.lt hBwd12.size
    have N10 := Lib.hid (N10.out.below N10.out.lt hBwd12)
    have l11_wd12 : wa11.heap.size < wd12.heap.size := Nat.lt_of_lt_of_le N11.out.lt hBwd12.size
    have N11 := Lib.hid (N11.out.below N11.out.lt hBwd12)
    have l12_wd12 : wa12.heap.size < wd12.heap.size := Nat.lt_of_lt_of_le N12.out.lt hBwd12.size
    have N12 := Lib.hid (N12.out.below N12.out.lt hBwd12)
    have HB := Lib.hid (below_row (HB.out.trans (hBwd12.mono HB.out.size)) s12 (num false (bitf C3)))
    have O12 := Lib.hid N12.out
    have N8 := Lib.hid (N8.out.rowOther (num false (bitf C3)) (by omega : wa8.heap.size ≠ wa12.heap.size))
    have N9 := Lib.hid (N9.out.rowOther (num false (bitf C3)) (by omega : wa9.heap.size ≠ wa12.heap.size))
    have N10 := Lib.hid (N10.out.rowOther (num false (bitf C3)) (by omega : wa10.heap.size ≠ wa12.heap.size))
    have N11 := Lib.hid (N11.out.rowOther (num false (bitf C3)) (by omega : wa11.heap.size ≠ wa12.heap.size))
    have N12 := Lib.hid (N12.out.row (cs' := num false (bitf C3)))
    clear hBwd12 hc
    go_wp2_with (first | (refine store_num (neg := false) (f := bitf C3) O12.out rfl rfl rfl rfl ?_) | (refine load_num N8.out rfl rfl rfl ?_) | (refine load_num_g N8.out (by rfl) rfl rfl ?_) | (refine load_num N9.out rfl rfl rfl ?_) | (refine load_num_g N9.out (by rfl) rfl rfl ?_) | (refine load_num N10.out rfl rfl rfl ?_) | (refine load_num_g N10.out (by rfl) rfl rfl ?_) | (refine load_num N11.out rfl rfl rfl ?_) | (refine load_num_g N11.out (by rfl) rfl rfl ?_) | (refine load_num N12.out rfl rfl rfl ?_) | (refine load_num_g N12.out (by rfl) rfl rfl ?_) | fail)
    have hc := bare_any false false A3 C3 (by omega) (by omega) (wd12.setRow wa12.heap.size (num false (bitf C3)))
    refine hc.mono ?_
    rintro e wc ⟨rfl, hBc⟩
    have l8_wc : wa8.heap.size < wc.heap.size := Nat.lt_of_lt_of_le N8.out.lt hBc.size
    have N8 := Lib.hid (N8.out.below N8.out.lt hBc)
    have l9_wc : wa9.heap.size < wc.heap.size := Nat.lt_of_lt_of_le N9.out.lt hBc.size
    have N9 := Lib.hid (N9.out.below N9.out.lt hBc)
    have l10_wc : wa10.heap.size < wc.heap.size := Nat.lt_of_lt_of_le N10.out.lt hBc.size
    have N10 := Lib.hid (N10.out.below N10.out.lt hBc)
    have l11_wc : wa11.heap.size < wc.heap.size := Nat.lt_of_lt_of_le N11.out.lt hBc.size
    have N11 := Lib.hid (N11.out.below N11.out.lt hBc)
    have l12_wc : wa12.heap.size < wc.heap.size := Nat.lt_of_lt_of_le N12.out.lt hBc.size
    have N12 := Lib.hid (N12.out.below N12.out.lt hBc)
    have HB := Lib.hid (HB.out.trans (hBc.mono HB.out.size))
    clear hc hBc
    have hok2 : i = i0 → A3 ≤ C3 ∧ C3 < B3 := fun e => by have h := HOKX.out e; unfold okR at h; rw [if_pos rfl, HX.out, hA, hBB, hA3, hB3, hC3] at h; exact h
    have HOK2 := Lib.hid hok2
    clear hok2 hA hBB hC hA3 hB3 hC3
    by_cases c1 : A3 ≤ C3
    · have hd1 : decide (stand A3 C3 ≤ 0) = true := by simpa using stand_le.2 c1
      go_wp2_with (first | (refine load_num N8.out rfl rfl rfl ?_) | (refine load_num_g N8.out (by rfl) rfl rfl ?_) | (refine load_num N9.out rfl rfl rfl ?_) | (refine load_num_g N9.out (by rfl) rfl rfl ?_) | (refine load_num N10.out rfl rfl rfl ?_) | (refine load_num_g N10.out (by rfl) rfl rfl ?_) | (refine load_num N11.out rfl rfl rfl ?_) | (refine load_num_g N11.out (by rfl) rfl rfl ?_) | (refine load_num N12.out rfl rfl rfl ?_) | (refine load_num_g N12.out (by rfl) rfl rfl ?_) | fail)
      refine (bare_any false false C3 B3 (by omega) (by omega) wc).mono ?_
      rintro e wd ⟨rfl, hBd⟩
      have HD := Lib.hid (HB.out.trans (hBd.mono HB.out.size))
      by_cases c2 : C3 < B3
      · have hd2 : decide (stand C3 B3 < 0) = true := by simpa using stand_neg.2 c2
        go_wp2
        go_ret
        exact ⟨rfl, HD.out⟩
      · have hd2 : decide (stand C3 B3 < 0) = false := by simpa using fun h => c2 (stand_neg.1 h)
        have hne : i ≠ i0 := fun e => c2 (HOK2.out e).2
        go_wp2
        go_roundw
        case rel => exact ⟨i + 1, by omega, by omega, by go_num, HD.out⟩
        case measure => simp [intOf]; omega
    · have hd1 : decide (stand A3 C3 ≤ 0) = false := by simpa using fun h => c1 (stand_le.1 h)
      have hne : i ≠ i0 := fun e => c1 (HOK2.out e).1
      go_wp2
      go_roundw
      case rel => exact ⟨i + 1, by omega, by omega, by go_num, HB.out⟩
      case measure => simp [intOf]; omega
end Go.Proofs.YthjjlkoddmljbaaDoor.Ref
