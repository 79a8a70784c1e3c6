/- The document's Text and Parse of a hash. -/
import Derived.Test.YthjjlkoddmljbaaTBack
import Derived.Deep.RegionHeld3
set_option linter.unusedVariables false
set_option linter.unusedSimpArgs false
namespace Go.Proofs.Ythjjlkoddmljbaa
open Go.RowKit Go.Shelf
theorem step_bapp8 {ops : Array Oper} {o : Oper} {a : Act} {w : World} {K : Act → World → Prop} {Q : Exit → Act → World → Prop} {E : Prop} (hgd : o.guard = none) (s x : Operand)
    (ho : o.op = .call { callee := .builtin .append, args := #[s, x], argTypes := #[34, 34] })
    (base : Nat) (v : Value) (ys : List Int) (hs : a.eval s = v) (hown : Own8 base w v ys) (B : Nat) (A : Option Addr) (m c : Nat) (xs : List Int) (hx : a.eval x = .slice A m c) (hb : Bys8 B w (.slice A m c) xs)
    (hlen : ys.length + xs.length ≤ 10000000000000) (hbase : base ≤ w.heap.size)
    (h : ∀ a' c' w', Own8 base w' (.slice a' (ys ++ xs).length c') (ys ++ xs) → Below base w w' → K (a.put o.dst (.slice a' (ys ++ xs).length c')) w') :
    if Region.wanted o (yielded ops a.tmps) = true then Oper.wp Try.prog o a w K Q else E := by
  have hw : Region.wanted o (yielded ops a.tmps) = true := by simp [Region.wanted, hgd]
  rw [if_pos hw]
  obtain ⟨v', w', hrun, h2, h3⟩ := run_bapp8 base o.type w v ys hown B A m c xs hb hlen hbase
  obtain ⟨a', c', rfl⟩ := h2.form
  unfold Oper.wp execOp
  simp only [ho, resolve, invoke, builtin, Sem.run_bind, Sem.run_pure, Result.andThen_ok, List.map_toArray, List.map_cons, List.map_nil, hs, hx, hrun]
  exact h a' c' w' h2 h3
theorem dig_low (n : Int) (h0 : 0 ≤ n) (h1 : n < 10) : dig n = 48 + n := by unfold dig digit; rw [if_pos (by omega)]; omega
theorem dig_high (n : Int) (h0 : 10 ≤ n) : dig n = 87 + n := by unfold dig digit; rw [if_neg (by omega)]; omega
theorem nibble_any (n : Int) (h0 : 0 ≤ n) (h1 : n < 16) (w : World) : Calls Try.prog 9 #[.int .u8 n] w fun e w' => e = .returned (.int .u8 (dig n)) ∧ w = w' := by
  by_cases h : n < 10
  · rw [dig_low n h0 h]
    go_enter Try.func9, Try.ntmps9
    go_wp2
    go_ret
    exact ⟨rfl, rfl⟩
  · rw [dig_high n (by omega)]
    go_enter Try.func9, Try.ntmps9
    go_wp2
    go_ret
    exact ⟨by first | rfl | (rw [show (97 : Int) + n - 10 = 87 + n by omega]; rfl) | (simp; omega), rfl⟩
set_option maxRecDepth 100000 in
set_option maxHeartbeats 1000000 in
theorem rtext_any (h : List Int) (hb : Bytes h) (w : World) :
    Calls Try.prog 7 #[.agg (nums .u8 32 (bf h))] w fun e w' => e = .returned (.string (strOfNums (texted h))) ∧ Below w.heap.size w w' := by
  have HB := Lib.hid hb
  have H1 := Lib.hid (At.new 23 w (nums .u8 32 (bf h)))
  have hB0 : Below w.heap.size w (w.alloc (.cells (nums .u8 32 (bf h)) 23)) := (Below.refl _ w).alloc (Nat.le_refl _) _
  have hs0 : w.heap.size + 1 ≤ (w.alloc (.cells (nums .u8 32 (bf h)) 23)).heap.size := by simp
  clear hb
  go_enter Try.func7, Try.ntmps7
  go_wp2
  go_loopw [3, 4] (fun v i wr => ∃ k : Nat, k ≤ 32 ∧ i = .int .i64 k ∧ (∃ a c, v = .slice a (tx h k).length c) ∧ Own8 (w.heap.size + 1) wr v (tx h k) ∧ Below w.heap.size w wr ∧ At 23 wr w.heap.size (nums .u8 32 (bf h)) ∧ w.heap.size + 1 ≤ wr.heap.size) (fun _ i _ => 32 - (intOf i).toNat)
  case atStart => exact ⟨0, by omega, rfl, ⟨_, _, rfl⟩, Own8.nil _ _, hB0, H1.out, hs0⟩
  case round =>
    clear hB0 hs0 H1
    obtain ⟨k, hk, rfl, ⟨a, c, rfl⟩, hO, hBw, hAt, hsz⟩ := hrel
    by_cases hlt : k < 32
    · have hcl := hAt.num k hlt
      have hbb := HB.out.get k
      have TS := Lib.hid (tx_succ HB.out k)
      have TL := Lib.hid (tx_length h k)
      have b0 : 0 ≤ bf h k ∧ bf h k < 256 := hbb
      generalize bf h k = x at *
      obtain ⟨x0, x1⟩ := b0
      clear hbb
      have hn1 := nibble_any (x / 16) (by omega) (by omega)
      have hn2 := nibble_any (x % 16) (by omega) (by omega)
      have q1 : x.tdiv 16 = x / 16 := Int.tdiv_eq_ediv_of_nonneg x0
      have q2 : x.tmod 16 = x % 16 := Int.tmod_eq_emod_of_nonneg x0
      have q3 : IntKind.u8.wrap (x / 16) = x / 16 := by rw [IntKind.wrap_u8]; omega
      have hB2 : Below wr.heap.size wr (wr.drew.alloc (.cells #[.int .u8 (dig (x / 16)), .int .u8 (dig (x % 16))] 5)) := ((Below.refl _ wr).drew).alloc (Nat.le_refl _) _
      have hOa := hO.below hB2 (Nat.le_refl _)
      have d1 := dig_bd (x / 16) (by omega) (by omega)
      have d2 := dig_bd (x % 16) (by omega) (by omega)
      have hbo := bys8_alloc (T := 5) wr.drew [dig (x / 16), dig (x % 16)] (by intro z hz; simp at hz; rcases hz with rfl | rfl <;> assumption) #[.int .u8 (dig (x / 16)), .int .u8 (dig (x % 16))] rfl 2 2 rfl (0, 0)
      have hfl : (tx h k).length + [dig (x / 16), dig (x % 16)].length ≤ 10000000000000 := by rw [TL.out]; simp; omega
      have hws : w.heap.size + 1 ≤ (wr.drew.alloc (.cells #[.int .u8 (dig (x / 16)), .int .u8 (dig (x % 16))] 5)).heap.size := by simp; omega
      have hcl2 := (hB2.cell (p := ⟨w.heap.size, k, none⟩) (by show w.heap.size < _; omega)).trans hcl
      have hgl : w.heap.size < w.heap.size + 1 := by omega
      have D1 := Lib.hid hcl2
      have HW := Lib.hid hBw
      have HAT := Lib.hid hAt
      have HSZ := Lib.hid hsz
      have HB2 := Lib.hid hB2
      clear hcl2 hBw hAt hsz d1 d2 hO hB2
      go_wp2_with fail
      go_region_held3 (fun w' => w'.cell? ⟨w.heap.size, k, none⟩ = some (.int .u8 x))
        (first
          | go_keep
          | exact D1.out
          | exact (hB'.cell (p := ⟨w.heap.size, k, none⟩) hgl).trans D1.out)
        (first
          | (go_at_call 9; ((with_reducible refine (hn1 _).mono ?_); rintro e w' ⟨rfl, rfl⟩))
          | (go_at_call 9; ((with_reducible refine (hn2 _).mono ?_); rintro e w' ⟨rfl, rfl⟩))
          | (refine step_bapp8 rfl (.tmp 9) (.tmp 20) rfl (w.heap.size + 1) _ (tx h k) rfl (by exact hOa) _ (some ⟨wr.heap.size, 0, none⟩) 2 2 [dig (x / 16), dig (x % 16)] rfl (by exact hbo) hfl (by exact hws) ?_; intro a' c' w' hO' hB'))
      have e : (tx h k).length + 2 = (tx h (k + 1)).length := by rw [TL.out, tx_length]; omega
      rw [e]
      rw [TS.out] at hO'
      have BB : Below (w.heap.size + 1) wr w' := (HB2.out.mono HSZ.out).trans hB'
      have HO := Lib.hid hO'
      have HBB := Lib.hid BB
      clear hO' BB hB' hOa hbo hn1 hn2 q1 q2 q3 hcl e
      go_wp2
      go_roundw
      case rel => exact ⟨k + 1, by omega, by go_num, ⟨a', c', rfl⟩, HO.out, HW.out.trans (HBB.out.mono (Nat.le_succ _)), At.below HAT.out (Nat.lt_succ_self _) HBB.out, Nat.le_trans HSZ.out HBB.out.size⟩
      case measure => simp [intOf]; omega
    · rw [show tx h k = tx h 32 by rw [show k = 32 by omega], tx_all] at hO ⊢
      have hcv := conv_bys8 hO.bys
      have HW := Lib.hid hBw
      clear hO hBw hsz hAt
      go_wp2
      go_ret
      exact ⟨rfl, HW.out⟩
end Go.Proofs.Ythjjlkoddmljbaa
