/- The walk of the statement FixqOrder: whatever numbers, it answers true and writes nothing that was there. -/
import Derived.Test.YtmkmpkajcjdfaaaSpreadsWalk
import Derived.Test.YtmkmpkajcjdfaaaSlices
import Derived.OwnWalk
import Derived.LoopTactic
import Derived.Maps.AppendAt
set_option linter.unusedVariables false
namespace Go.Proofs.Ytmkmpkajcjdfaaa
open Go.RowKit Go.Shelf
theorem sub_fit (a b : Int) (ha : InR a) (hb : InR b) (h : InR (a - b)) (w : World) :
    Calls Try.prog 9 #[.int .i64 a, .int .i64 b] w fun e w' => e = .returned (.tuple #[.int .i64 (a - b), .int .i64 0]) ∧ w = w' := by
  have k := sub_any a b ha.1 ha.2 hb.1 hb.2 w
  rwa [tv_in h, te_in h] at k
theorem infoI64 : (Try.prog.info? 2).map (fun i => (i.zero, i.size, i.bytes)) = some (some (.int .i64 0), 1, 8) := by kernel_rfl
set_option maxHeartbeats 1000000 in
theorem order_long (a0 : Option Addr) (len cap : Nat) (a b : Int) (h : 100 < len) (w : World) :
    Calls Try.prog 5 #[.slice a0 len cap, .int .i64 a, .int .i64 b] w fun e w' => e = .returned (.bool true) ∧ Below w.heap.size w w' := by
  go_enter Try.func5, Try.ntmps5
  go_wp2_with fail
  refine (alive_any w).mono ?_
  rintro e w1 ⟨rfl, hB⟩
  go_wp2
  go_ret
  exact ⟨rfl, hB⟩
/-- What has been put behind one another when m numbers are left: the last ones, turned about. -/
def gone (es : List I64) (m : Nat) : List I64 := es.reverse.take (es.length - m)
def goneCells (es : List I64) (m : Nat) : List Value := (gone es m).map (fun x : I64 => Value.int .i64 x.1)
theorem gone_succ {es : List I64} {m : Nat} (h : m < es.length) : goneCells es m = goneCells es (m + 1) ++ [Value.int .i64 (es[m]?.getD z0).1] := by
  unfold goneCells gone
  rw [show es.length - m = (es.length - (m + 1)) + 1 by omega, List.take_succ_eq_append_getElem (by simp; omega)]
  simp [List.getElem_reverse, show es.length - 1 - (es.length - (m + 1)) = m by omega, h]
theorem gone_all (es : List I64) : goneCells es 0 = es.reverse.map (fun x : I64 => Value.int .i64 x.1) := by
  unfold goneCells gone
  rw [List.take_of_length_le (by simp)]
theorem gone_none (es : List I64) : goneCells es es.length = [] := by unfold goneCells gone; simp
theorem at_num {es : List I64} {n₀ : Nat} {W : World} {a0 : Option Addr} {len cap m : Nat} (h : Ints n₀ W (.slice a0 len cap) es) (hm : m < es.length) :
    ∃ b off, a0 = some ⟨b, off, none⟩ ∧ len = es.length ∧ b < n₀ ∧ W.cell? ⟨b, off + m, none⟩ = some (.int .i64 (es[m]?.getD z0).1) := by
  rcases h with ⟨rfl, _⟩ | ⟨b, off, c, e, hb, hc⟩
  · simp at hm
  · simp only [Value.slice.injEq] at e
    obtain ⟨rfl, rfl, rfl⟩ := e
    exact ⟨b, off, rfl, rfl, hb, hc m hm⟩
theorem two_sum (a b : Int) (ha : InR a) (hb : InR b) (w : World) : Calls Try.prog 15 #[.slice (some ⟨w.heap.size, 0, none⟩) 2 2] (w.alloc (.cells #[.int .i64 a, .int .i64 b] 2)) fun e w' => e = .returned (.tuple #[.int .i64 (tv (a + b)), .int .i64 (te (a + b))]) ∧ Below w.heap.size w w' := by
  have h := sum_any (some ⟨w.heap.size, 0, none⟩) 2 2 [⟨a, ha⟩, ⟨b, hb⟩] (by simp) (w.alloc (.cells #[.int .i64 a, .int .i64 b] 2))
    (.inr ⟨w.heap.size, 0, 2, rfl, by simp, fun j hj => by
      have hj3 : j = 0 ∨ j = 1 := by simp at hj; omega
      rcases hj3 with rfl | rfl <;> simp⟩)
  rw [isum_two a b ha hb] at h
  exact h.mono fun _ _ ⟨h1, h2⟩ => ⟨h1, ((Below.refl _ w).alloc (Nat.le_refl _) _).trans (h2.mono (by simp))⟩
theorem two_fit (a b : Int) (ha : InR a) (hb : InR b) (h : InR (a + b)) (w : World) : Calls Try.prog 15 #[.slice (some ⟨w.heap.size, 0, none⟩) 2 2] (w.alloc (.cells #[.int .i64 a, .int .i64 b] 2)) fun e w' => e = .returned (.tuple #[.int .i64 (a + b), .int .i64 0]) ∧ Below w.heap.size w w' := by
  have k := two_sum a b ha hb w
  rwa [tv_in h, te_in h] at k
theorem two_not (a b : Int) (ha : InR a) (hb : InR b) (h : ¬ InR (a + b)) (w : World) : Calls Try.prog 15 #[.slice (some ⟨w.heap.size, 0, none⟩) 2 2] (w.alloc (.cells #[.int .i64 a, .int .i64 b] 2)) fun e w' => e = .returned (.tuple #[.int .i64 0, .int .i64 10]) ∧ Below w.heap.size w w' := by
  have k := two_sum a b ha hb w
  rwa [tv_out h, te_out h] at k
theorem sub_back (a b : Int) (ha : InR a) (hb : InR b) (h : InR (a + b)) (w : World) :
    Calls Try.prog 9 #[.int .i64 (a + b), .int .i64 b] w fun e w' => e = .returned (.tuple #[.int .i64 a, .int .i64 0]) ∧ w = w' := by
  have e : a + b - b = a := by omega
  have k := sub_fit (a + b) b h hb (by rw [e]; exact ha) w
  rwa [e] at k
theorem sum_back (av : Option Addr) (nv cv : Nat) (es : List I64) (hreach : es.length * 8 ≤ 140737488351232) (w : World) (hI : Ints w.heap.size w (.slice av nv cv) es.reverse) :
    Calls Try.prog 15 #[.slice av nv cv] w fun e W' => e = .returned (.tuple #[.int .i64 (tv (isum es)), .int .i64 (te (isum es))]) ∧ Below w.heap.size w W' := by
  have k := sum_any av nv cv es.reverse (by simpa using hreach) w hI
  rwa [isum_reverse] at k
theorem slice_of_ints {n₀ : Nat} {W : World} {v : Value} {es : List I64} (h : Ints n₀ W v es) : ∃ a n c, v = .slice a n c := by
  rcases h with ⟨_, a, c, rfl⟩ | ⟨b, off, c, rfl, _⟩
  · exact ⟨_, _, _, rfl⟩
  · exact ⟨_, _, _, rfl⟩
set_option maxRecDepth 100000 in
set_option maxHeartbeats 2000000 in
theorem order_short (a0 : Option Addr) (len cap : Nat) (es : List I64) (a b : Int) (ha : InR a) (hb : InR b) (hl : len ≤ 100) (he : es.length = len) (w : World) (hI : Ints w.heap.size w (.slice a0 len cap) es) :
    Calls Try.prog 5 #[.slice a0 len cap, .int .i64 a, .int .i64 b] w fun e w' => e = .returned (.bool true) ∧ Below w.heap.size w w' := by
  obtain ⟨i0, hi, hz0, hz1, hz2⟩ := info_parts infoI64
  have HI := Lib.hid hI
  have HE := Lib.hid he
  have HA := Lib.hid ha
  have HB := Lib.hid hb
  clear hI he ha hb
  have hd : decide ((100 : Int) < (len : Int)) = false := by simp; omega
  go_enter Try.func5, Try.ntmps5
  go_wp2_with fail
  refine (alive_any w).mono ?_
  rintro e w1 ⟨rfl, hB⟩
  go_wp2_with fail
  go_loopw [8, 9] (fun v i wr => ∃ m : Nat, m ≤ len ∧ i = .int .i64 ((m : Int) - 1) ∧ wr.ownsRow w.heap.size 2 1 v (len - m) (goneCells es m) ∧ Below w.heap.size w wr)
    (fun _ i _ => (intOf i + 1).toNat)
  case atStart => exact ⟨len, Nat.le_refl _, rfl, by rw [← HE.out, gone_none, Nat.sub_self]; exact World.ownsRow_nil _ _ _ _, hB⟩
  case round =>
    obtain ⟨m, hm, rfl, hown, hnx⟩ := hrel
    cases m with
    | zero =>
      have hE := HE.out
      rw [gone_all, Nat.sub_zero, ← hE, ← List.length_reverse] at hown
      have hback := ints_of_owned hown
      obtain ⟨av, nv, cv, rfl⟩ := slice_of_ints hback
      have HK := Lib.hid hback
      have hr8 : es.length * 8 ≤ 140737488351232 := by omega
      clear hback hown hE
      go_wp2_with fail
      refine (sum_any a0 len cap es hr8 wr ((HI.out.below hnx).mono hnx.size)).mono ?_
      rintro e w2 ⟨rfl, hB2⟩
      go_wp2_with fail
      refine (sum_back av nv cv es hr8 w2 ((HK.out.below hB2).mono hB2.size)).mono ?_
      rintro e w3 ⟨rfl, hB3⟩
      have hBB : Below w.heap.size w w3 := (hnx.trans (hB2.mono hnx.size)).trans (hB3.mono (Nat.le_trans hnx.size hB2.size))
      clear hr8
      go_wp2_with fail
      by_cases hs : InR (a + b)
      · have HS := Lib.hid hs
        clear hs
        refine (add_fit a b HA.out HB.out HS.out _).mono ?_
        rintro e w4 ⟨rfl, rfl⟩
        go_wp2_with fail
        refine (sub_back a b HA.out HB.out HS.out _).mono ?_
        rintro e w4 ⟨rfl, rfl⟩
        go_wp2_with fail
        refine (two_fit a b HA.out HB.out HS.out _).mono ?_
        rintro e w4 ⟨rfl, hB4⟩
        go_wp2
        go_ret
        exact ⟨rfl, hBB.trans (hB4.mono hBB.size)⟩
      · have HS := Lib.hid hs
        clear hs
        refine (add_not a b HA.out HB.out HS.out _).mono ?_
        rintro e w4 ⟨rfl, rfl⟩
        go_wp2_with fail
        refine (two_not a b HA.out HB.out HS.out _).mono ?_
        rintro e w4 ⟨rfl, hB4⟩
        go_wp2
        go_ret
        exact ⟨rfl, hBB.trans (hB4.mono hBB.size)⟩
    | succ m =>
      obtain ⟨bb, off, rfl, hlen, hbb, hcell⟩ := at_num (HI.out.below hnx) (m := m) (by rw [HE.out]; omega)
      have HL := Lib.hid hlen
      clear hlen
      have e1 : (((m + 1 : Nat) : Int) - 1) = (m : Int) := by omega
      rw [e1]
      clear e1
      go_wp2_with (at_builtin; refine wpList_append_own _ rfl _ _ 32 rfl w.heap.size 2 i0 (.int .i64 0) 1 8 Try.underlying32 hi hz0 hz1 hz2 rfl (by decide) _ _ _ rfl (hown.alloc _) ⟨wr.heap.size, 0, none⟩ 1 1 [.int .i64 (es[m]?.getD z0).1] rfl rfl (cell_one_new _ _ _) (by intro u hu; simp at hu; subst hu; rfl) (by unfold maxLen; omega) (by omega) (by have := hnx.size; simp; omega) ?_; intro v' w1 hown' hgrow _)
      have hB1 := (hnx.alloc (Nat.le_trans hnx.size (Nat.le_refl _)) (.cells #[.int .i64 (es[m]?.getD z0).1] 2)).grown hgrow (by simp; have := hnx.size; omega) (fun j hj => (hown.lt j hj).1)
      rw [← gone_succ (by rw [HE.out]; omega), show len - (m + 1) + 1 = len - m by omega] at hown'
      go_roundw
      case rel => exact ⟨m, by omega, rfl, hown', hB1⟩
      case measure => simp [intOf]
theorem order_any (a0 : Option Addr) (len cap : Nat) (zs : List Int) (a b : Int) (ha : InR a) (hb : InR b) (w : World) (h : IsRow .i64 w a0 len cap zs) :
    Calls Try.prog 5 #[.slice a0 len cap, .int .i64 a, .int .i64 b] w fun e w' => e = .returned (.bool true) ∧ Below w.heap.size w w' := by
  by_cases hl : len ≤ 100
  · obtain ⟨es, he, hI⟩ := ints_of_row h
    exact order_short a0 len cap es a b ha hb hl he w hI
  · exact order_long a0 len cap a b (by omega) w
end Go.Proofs.Ytmkmpkajcjdfaaa
