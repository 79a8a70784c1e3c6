/- The document's Words. -/
import Derived.Test.YtnomnigpcpfgiaaRPlace
import Derived.Deep.RegionLaw
import Derived.Deep.RegionWith
import Derived.Deep.CutRange
import Derived.Deep.RegionHeld3
set_option linter.unusedVariables false
namespace Go.Proofs.Ytnomnigpcpfgiaa
open Go.RowKit Go.Sort
theorem div_step2 (v n j : Nat) (h : j < n) : v / 256 ^ (n - (j + 1)) / 256 = v / 256 ^ (n - j) := by
  rw [Nat.div_div_eq_div_mul, ← Nat.pow_succ]
  congr 2
  omega
/-- The first k registers. -/
def firstR (v m : Nat) (o : Int) (k : Nat) : List Int := (List.range k).map fun j => byt v (8 - 2 * m + pl o (2 * j) (2 * m)) * 256 + byt v (8 - 2 * m + pl o (2 * j + 1) (2 * m))
theorem firstR_succ (v m : Nat) (o : Int) (k : Nat) : firstR v m o (k + 1) = firstR v m o k ++ [byt v (8 - 2 * m + pl o (2 * k) (2 * m)) * 256 + byt v (8 - 2 * m + pl o (2 * k + 1) (2 * m))] := by simp [firstR, List.range_succ]
theorem firstR_all (v m : Nat) (hm : m = 1 ∨ m = 2 ∨ m = 4) (o : Int) (ho : o = 1 ∨ o = 2 ∨ o = 3 ∨ o = 4) : firstR v m o m = wordsL v m o := by
  rw [wordsL_eq v m hm o ho]
  unfold firstR pairsL
  simp only [List.length_map, List.length_range, Nat.mul_div_cancel_left _ (show 0 < 2 by decide)]
  apply List.map_congr_left
  intro j hj
  have hj' : j < m := by simpa using hj
  have h1 : 2 * j < 2 * m := by omega
  have h2 : 2 * j + 1 < 2 * m := by omega
  simp only [List.getD, List.getElem?_map, List.getElem?_range h1, List.getElem?_range h2, Option.map_some, Option.getD_some]
theorem step_bapp16 {ops : Array Oper} {o : Oper} {a : Act} {w : World} {K : Act → World → Prop} {Q : Exit → Act → World → Prop} {E : Prop} (hgd : o.guard = none) (s x : Operand)
    (ho : o.op = .call { callee := .builtin .append, args := #[s, x], argTypes := #[23, 23] })
    (base : Nat) (v : Value) (ys : List Int) (hs : a.eval s = v) (hown : Own16 base w v ys) (B : Nat) (A : Option Addr) (m c : Nat) (xs : List Int) (hx : a.eval x = .slice A m c) (hb : Bys16 B w (.slice A m c) xs)
    (hlen : ys.length + xs.length ≤ 10000000000000) (hbase : base ≤ w.heap.size)
    (h : ∀ a' c' w', Own16 base w' (.slice a' (ys ++ xs).length c') (ys ++ xs) → Below base w w' → K (a.put o.dst (.slice a' (ys ++ xs).length c')) w') :
    if Region.wanted o (yielded ops a.tmps) = true then Oper.wp Try.prog o a w K Q else E := by
  have hw : Region.wanted o (yielded ops a.tmps) = true := by simp [Region.wanted, hgd]
  rw [if_pos hw]
  obtain ⟨v', w', hrun, h2, h3⟩ := run_bapp16 base o.type w v ys hown B A m c xs hb hlen hbase
  obtain ⟨a', c', rfl⟩ := h2.form
  unfold Oper.wp execOp
  simp only [ho, resolve, invoke, builtin, Sem.run_bind, Sem.run_pure, Result.andThen_ok, List.map_toArray, List.map_cons, List.map_nil, hs, hx, hrun]
  exact h a' c' w' h2 h3
set_option maxRecDepth 100000 in
set_option maxHeartbeats 16000000 in
theorem rwords_yes (v m : Nat) (o : Int) (h : fitsB v m) (ho : o = 1 ∨ o = 2 ∨ o = 3 ∨ o = 4) (w : World) :
    Calls Try.prog 11 #[.int .u64 v, .int .i64 m, .int .i64 o] w (Regs (wordsL v m o) 0 w) := by
  obtain ⟨hm, hv⟩ := fits_m h
  obtain ⟨i0, hi, hz0, hz1, hz2⟩ := parts8
  have hmay := may_any m hm w
  have hrf := rfits_yes v m h w
  have hm8 : 2 * m ≤ 8 := by omega
  have hm1 : 1 ≤ m := by omega
  have hlo : decide (o < 1) = false := by simp; omega
  have hhi : decide (4 < o) = false := by simp; omega
  have HO := Lib.hid ho
  have HM := Lib.hid hm
  have HI0 := Lib.hid hi
  have HZ0 := Lib.hid hz0
  have HZ1 := Lib.hid hz1
  have HZ2 := Lib.hid hz2
  clear ho hm hi hz0 hz1 hz2 h
  go_enter Try.func11, Try.ntmps11
  go_wp2_with fail
  refine hmay.mono ?_
  rintro e _ ⟨rfl, rfl⟩
  go_wp2_with fail
  refine hrf.mono ?_
  rintro e _ ⟨rfl, rfl⟩
  go_wp2_with (at_make; refine wpList_make_full _ rfl _ _ 42 rfl w.heap.size 5 i0 (.int .u8 0) 1 Try.underlying42 HI0.out HZ0.out HZ1.out _ _ _ _ (2 * m) rfl rfl (by omega) (by omega) (by rw [HZ2.out]; omega) (by unfold maxLen; omega) (Nat.le_refl _) ?_; intro w1 hO1 hG1)
  have hB1 : Below w.heap.size w w1 := (Below.refl _ _).grown hG1 (Nat.le_refl _) (by simp)
  have hR1 : Row8 w.heap.size (2 * m) (fun _ => 0) w1 := Row8.of_owns hO1 (fun j hj => made8_zero (2 * m) j hj)
  have hg1 : w.heap.size < w1.heap.size := World.block_lt_of_cell? w1 _ (hR1 0 (by omega)).1
  clear hO1 hG1 hmay hrf
  go_loopw [0, 9] (fun t i wr => ∃ (j : Nat) (iz : Int) (X : Nat), j ≤ 2 * m ∧ iz = (j : Int) - 1 ∧ X = v / 256 ^ (2 * m - j) ∧ i = .int .i64 iz ∧ t = .int .u64 (X : Int) ∧ Row8 w.heap.size (2 * m) (fun i => if j ≤ i then byt v (8 - 2 * m + i) else 0) wr ∧ Below w.heap.size w wr ∧ w1.heap.size ≤ wr.heap.size) (fun _ i _ => ((RowKit.intOf i) + 1).toNat)
  case atStart => exact ⟨2 * m, 2 * (m : Int) - 1, v, Nat.le_refl _, by omega, by simp, by first | rfl | go_num, rfl, hR1.congr (fun j hj => by rw [if_neg (by omega)]), hB1, Nat.le_refl _⟩
  case round =>
    obtain ⟨j, iz, X, hj, hiz, hX, rfl, rfl, hR, hB, hs⟩ := hrel
    have hXb : X < 18446744073709551616 := by rw [hX]; exact Nat.lt_of_le_of_lt (Nat.div_le_self _ _) hv
    rcases j with _ | p
    · obtain rfl : iz = -1 := by omega
      have HX := Lib.hid hX
      have hR' : Row8 w.heap.size (2 * m) (fun i => byt v (8 - 2 * m + i)) wr := hR.congr (fun i _ => by rw [if_pos (Nat.zero_le _)])
      clear hX hiz hR hR1
      go_wp2
      go_loopw [10, 11] (fun t i wx => ∃ (k i0 : Nat) (a : Option Addr) (c : Nat), k ≤ m ∧ i0 = 2 * k ∧ i = .int .i64 i0 ∧ t = .slice a k c ∧ Own16 w1.heap.size wx (.slice a k c) (firstR v m o k) ∧ Below w1.heap.size wr wx ∧ wr.heap.size ≤ wx.heap.size) (fun _ i _ => 2 * m - (RowKit.intOf i).toNat)
      case atStart => exact ⟨0, 0, none, 0, Nat.zero_le _, rfl, rfl, rfl, Own16.nil _ _, Below.refl _ _, Nat.le_refl _⟩
      case round =>
        obtain ⟨k, i0, a, c, hk, hi0, rfl, rfl, hO, hBx, hsx⟩ := hrel
        by_cases hlt : k < m
        · have hRx := hR'.below hBx hg1
          have hp1 := pl_lt o m i0 (by omega)
          have hp2 := pl_lt o m (i0 + 1) (by omega)
          have hc1 := place_any o HO.out i0 (2 * m) (by omega) hm8 (by omega)
          have hc2 := place_any o HO.out (i0 + 1) (2 * m) (by omega) hm8 (by omega)
          have cx1 : wr.cell? ⟨w.heap.size, pl o i0 (2 * m), none⟩ = some (.int .u8 (byt v (8 - 2 * m + pl o i0 (2 * m)))) := (hRx _ hp1).1
          have cx2 : wr.cell? ⟨w.heap.size, pl o (i0 + 1) (2 * m), none⟩ = some (.int .u8 (byt v (8 - 2 * m + pl o (i0 + 1) (2 * m)))) := (hRx _ hp2).1
          have hsucc := firstR_succ v m o k
          rw [← hi0] at hsucc
          have b1 := byt_bd v (8 - 2 * m + pl o i0 (2 * m))
          have b2 := byt_bd v (8 - 2 * m + pl o (i0 + 1) (2 * m))
          generalize byt v (8 - 2 * m + pl o i0 (2 * m)) = x at *
          generalize byt v (8 - 2 * m + pl o (i0 + 1) (2 * m)) = y at *
          generalize pl o i0 (2 * m) = P1 at *
          generalize pl o (i0 + 1) (2 * m) = P2 at *
          have e1 : ((2 * m : Nat) : Int) = 2 * (m : Int) := by omega
          have e2 : ((i0 + 1 : Nat) : Int) = (i0 : Int) + 1 := by omega
          rw [e1] at hc1
          rw [e1, e2] at hc2
          have hi8 : i0 + 1 < 8 := by omega
          have s1 : IntKind.i64.wrap (2 * (m : Int)) = 2 * (m : Int) := IntWalk.i64_in _ (by omega)
          have s2 : IntKind.i64.wrap ((i0 : Int) + 1) = (i0 : Int) + 1 := IntWalk.i64_in _ (by omega)
          have s3 : IntKind.u16.wrap x = x := by rw [IntKind.wrap_u16]; omega
          have s4 : IntKind.u16.wrap (x * 256) = x * 256 := by rw [IntKind.wrap_u16]; omega
          have s5 : IntKind.u16.wrap y = y := by rw [IntKind.wrap_u16]; omega
          have s6 : IntKind.u16.wrap (x * 256 + y) = x * 256 + y := by rw [IntKind.wrap_u16]; omega
          have hlt2 : (i0 : Int) < 2 * (m : Int) := by omega
          have hmx : Try.prog.follows .mixedOrders = true := by kernel_rfl
          have HSU := Lib.hid hsucc
          have HI := Lib.hid hi0
          have HB := Lib.hid hB
          clear hsucc hi0 e1 e2 hRx hR'
          have hal : Below wr.heap.size wr (wr.drew.alloc (.cells #[.int .u16 (x * 256 + y)] 48)) := (Below.refl _ _).drew.alloc (Nat.le_refl _) _
          have hOa := hO.below hal (Nat.le_refl _)
          have hbo := bys16_alloc (T := 48) wr.drew [x * 256 + y] (by intro z hz; simp at hz; subst hz; omega) #[.int .u16 (x * 256 + y)] rfl 1 1 rfl (0, 0)
          have hfl : (firstR v m o k).length + [x * 256 + y].length ≤ 10000000000000 := by simp [firstR]; omega
          have hkl : (firstR v m o k).length = k := by simp [firstR]
          have HKL := Lib.hid hkl
          have hws : w1.heap.size ≤ (wr.drew.alloc (.cells #[.int .u16 (x * 256 + y)] 48)).heap.size := by simp; omega
          have dx1 := (hal.cell (p := ⟨w.heap.size, P1, none⟩) (by show w.heap.size < _; omega)).trans cx1
          have dx2 := (hal.cell (p := ⟨w.heap.size, P2, none⟩) (by show w.heap.size < _; omega)).trans cx2
          have D1 := Lib.hid dx1
          have D2 := Lib.hid dx2
          have HAL := Lib.hid hal
          have HBX := Lib.hid hBx
          have HSX := Lib.hid hsx
          have HS0 := Lib.hid hs
          clear dx1 dx2 hBx
          clear hkl hal hO hsx hs hj hXb hv hlo hhi hB
          have q1 : (0 : Int) ≤ (P1 : Int) := Int.natCast_nonneg _
          have q2 : (0 : Int) ≤ (P2 : Int) := Int.natCast_nonneg _
          have q3 : (P1 : Int) < 2 * (m : Int) := by omega
          have q4 : (P2 : Int) < 2 * (m : Int) := by omega
          have q5 : (P1 : Int) < ((2 * m : Nat) : Int) := by omega
          have q6 : (P2 : Int) < ((2 * m : Nat) : Int) := by omega
          go_wp2_with fail
          go_region_held3 (fun w' => w'.cell? ⟨w.heap.size, P1, none⟩ = some (.int .u8 x) ∧ w'.cell? ⟨w.heap.size, P2, none⟩ = some (.int .u8 y))
            (first
              | go_keep
              | exact ⟨(hB'.cell (p := ⟨w.heap.size, P1, none⟩) hg1).trans D1.out, (hB'.cell (p := ⟨w.heap.size, P2, none⟩) hg1).trans D2.out⟩)
            (first
              | (go_at_call 32; ((with_reducible refine (hc1 _).mono ?_); rintro e w' ⟨rfl, rfl⟩))
              | (go_at_call 32; ((with_reducible refine (hc2 _).mono ?_); rintro e w' ⟨rfl, rfl⟩))
              | (refine step_bapp16 rfl (.tmp 53) (.tmp 75) rfl w1.heap.size _ (firstR v m o k) rfl (by exact hOa) _ (some ⟨wr.heap.size, 0, none⟩) 1 1 [x * 256 + y] rfl (by exact hbo) hfl (by exact hws) ?_; intro a' c' w' hO' hB'))
          have hlen2 : (firstR v m o k ++ [x * 256 + y]).length = k + 1 := by simp [firstR]
          rw [hlen2, ← HSU.out] at hO'
          rw [HKL.out]
          have hB2 : Below w1.heap.size wr w' := (HAL.out.mono (by have := HSX.out; have := HS0.out; omega)).trans hB'
          have hs2 := hB2.size
          clear q1 q2 q3 q4 q5 q6 s1 s2 s3 s4 s5 s6
          go_wp2
          go_roundw
          case rel => exact ⟨k + 1, i0 + 2, a', c', by omega, by have := HI.out; omega, by first | rfl | go_num, by first | rfl | go_num, hO', HBX.out.trans hB2, by have := HSX.out; omega⟩
          case measure => simp [RowKit.intOf]; omega
        · obtain rfl : k = m := by omega
          have hI0 : (i0 : Int) = 2 * (k : Int) := by omega
          rw [firstR_all v k HM.out o HO.out] at hO
          clear hi0
          go_wp2
          exact bodyPost_ret (v := .tuple #[.slice a k c, .int .i64 0]) (by simp [results, Try.results11, go_sem]) rfl ⟨a, c, by rw [words_len v k HM.out o HO.out], by rw [words_len v k HM.out o HO.out]; exact hO.le (by omega), hB.trans (hBx.mono (by omega))⟩
    · obtain rfl : iz = (p : Int) := by omega
      obtain ⟨cx, fx⟩ := hR p (by omega)
      have hp : p < 2 * m := by omega
      have HX := Lib.hid hX
      have HR := Lib.hid hR
      clear hX hiz hR hR1
      go_wp2
      go_roundw
      case rel =>
        have e : (X : Int) % 256 = byt v (8 - 2 * m + p) := by
          rw [HX.out]; unfold byt
          rw [show 7 - (8 - 2 * m + p) = 2 * m - (p + 1) by omega]; omega
        have hnew : Row8 w.heap.size (2 * m) (fun i => if p ≤ i then byt v (8 - 2 * m + i) else 0) (wr.setCell ⟨w.heap.size, p, none⟩ (.int .u8 (byt v (8 - 2 * m + p)))) := by
          refine (HR.out.set p (byt v (8 - 2 * m + p))).congr (fun i hi => ?_)
          by_cases e : i = p
          · subst e; simp
          · simp only [e, if_false]
            by_cases h1 : p + 1 ≤ i
            · rw [if_pos h1, if_pos (by omega)]
            · rw [if_neg h1, if_neg (by omega)]
        rw [← e] at hnew
        exact ⟨p, (p : Int) - 1, X / 256, by omega, by omega, by rw [HX.out]; exact div_step2 v (2 * m) p hp, by first | rfl | go_num, by first | rfl | go_num, hnew, hB.setCell (p := ⟨w.heap.size, p, none⟩) (Nat.le_refl _) _, by simpa using hs⟩
      case measure => simp [RowKit.intOf]
end Go.Proofs.Ytnomnigpcpfgiaa
