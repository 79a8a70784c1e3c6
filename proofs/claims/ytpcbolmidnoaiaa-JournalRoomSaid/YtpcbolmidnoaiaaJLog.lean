/- logOf, partialOf. -/
import Derived.Test.YtpcbolmidnoaiaaJPair
set_option linter.unusedVariables false
set_option linter.unusedSimpArgs false
namespace Go.Proofs.Ytpcbolmidnoaiaa
open Go.RowKit Go.Shelf
/-- The bytes of a block that is known whole. -/
theorem bys_at {T : TypeId} {w : World} {g : Nat} {L : List Int} (h : At T w g (vals8 L).toArray) (hL : ∀ x ∈ L, 0 ≤ x ∧ x < 256) (cap : Nat) : Bys8 w.heap.size w (.slice (some ⟨g, 0, none⟩) L.length cap) L :=
  ⟨hL, .inr ⟨g, 0, cap, rfl, h.lt, fun j hj => by rw [Nat.zero_add, h.cell]; simpa using vals8_get L j hj⟩⟩
theorem bys_from {B : Nat} {W : World} {a : Option Addr} {n c : Nat} {xs : List Int} (h : Bys8 B W (.slice a n c) xs) (hn : n = xs.length) (hc : n ≤ c) (k : Nat) (hk : k ≤ n) :
    ∃ a2 n2 c2, (∀ W' : World, (Instr.slice 23 (.slice a n c) (some (.int .i64 (k : Int))) none none).run Try.prog W' = .ok (.slice a2 n2 c2) W') ∧ n2 = (xs.drop k).length ∧ Bys8 B W (.slice a2 n2 c2) (xs.drop k) ∧ n2 ≤ c2 := by
  have hr : ∀ W' : World, (Instr.slice 23 (.slice a n c) (some (.int .i64 (k : Int))) none none).run Try.prog W' = .ok (sliced a k n c 1) W' := fun W' => by
    rw [run_slice_l W' 23 a n c (by rw [elem8]; exact Try.underlying23) .i64 k (by omega) (by omega), elem8, size8]
    simp [Result.andThen]
  refine ⟨_, _, _, hr, by rw [List.length_drop, hn], ?_, by omega⟩
  by_cases hkn : k = n
  · refine ⟨fun x hx => h.1 x (List.mem_of_mem_drop hx), .inl ⟨by rw [List.drop_of_length_le (by omega)], _, _, by rw [hkn, Nat.sub_self]⟩⟩
  · obtain ⟨b, off, rfl, hb, _⟩ := h.ptr (by omega)
    have := h.drop k (by omega) (c - k)
    rw [if_neg (by omega), ← hn] at *
    rw [Nat.mul_one]
    by_cases h0 : k = 0
    · subst h0
      simpa [Addr.add] using this
    · simpa [Addr.add, h0] using this
theorem bys_to {B : Nat} {W : World} {a : Option Addr} {n c : Nat} {xs : List Int} (h : Bys8 B W (.slice a n c) xs) (hn : n = xs.length) (hc : n ≤ c) (k : Nat) (hk : k ≤ n) :
    ∃ a2 c2, (∀ W' : World, (Instr.slice 23 (.slice a n c) none (some (.int .i64 (k : Int))) none).run Try.prog W' = .ok (.slice a2 k c2) W') ∧ Bys8 B W (.slice a2 k c2) (xs.take k) ∧ k ≤ c2 := by
  have hr : ∀ W' : World, (Instr.slice 23 (.slice a n c) none (some (.int .i64 (k : Int))) none).run Try.prog W' = .ok (sliced a 0 k c 1) W' := fun W' => by
    rw [run_slice_h W' 23 a n c (by rw [elem8]; exact Try.underlying23) .i64 k (by omega) (by omega), elem8, size8]
    simp [Result.andThen]
  have e : sliced a 0 k c 1 = .slice a k c := by
    unfold sliced
    rw [Nat.zero_mul, Nat.sub_zero, Nat.sub_zero]
    split
    · rfl
    · cases a <;> simp [Addr.add]
  refine ⟨a, c, fun W' => by rw [hr, e], h.take k (by omega), by omega⟩
/-- The first m sectors of the log. -/
def logB (d : Dv) (m : Nat) : List Int := ((List.range m).map fun i => d.read ((2 + i : Nat) : Int)).flatten
theorem logB_succ (d : Dv) (m : Nat) : logB d (m + 1) = logB d m ++ d.read ((2 + m : Nat) : Int) := by
  unfold logB
  rw [List.range_succ, List.map_append, List.flatten_append]
  simp
theorem logB_len {d : Dv} (h : d.Ok) (hu : d.down = false) : ∀ m : Nat, 2 + m ≤ d.safe.length → (logB d m).length = 128 * m
  | 0, _ => rfl
  | m + 1, hm => by
    rw [logB_succ, List.length_append, logB_len h hu m (by omega), (read_sec h (n := ((2 + m : Nat) : Int)) (by unfold accE; rw [hu, if_neg (by simp), if_pos ⟨by omega, by omega⟩])).1]
    omega
theorem logB_pre (d : Dv) : ∀ (k m : Nat), ∃ t, logB d (k + m) = logB d k ++ t
  | k, 0 => ⟨[], by simp⟩
  | k, m + 1 => by
    obtain ⟨t, ht⟩ := logB_pre d k m
    exact ⟨t ++ d.read ((2 + (k + m) : Nat) : Int), by rw [← Nat.add_assoc, logB_succ, ht, List.append_assoc]⟩
theorem logB_take {d : Dv} (h : d.Ok) (hu : d.down = false) {k m n : Nat} (hk : k ≤ m) (hm : 2 + m ≤ d.safe.length) (hn : n ≤ 128 * k) : (logB d k).take n = (logB d m).take n := by
  obtain ⟨t, ht⟩ := logB_pre d k (m - k)
  rw [show k + (m - k) = m by omega] at ht
  rw [ht, List.take_append_of_le_length (by rw [logB_len h hu k (by omega)]; omega)]
def LogE (w w' : World) (xs : List Int) (e : Ending) : Prop := ∃ a c, e = .returned (.tuple #[.slice a xs.length c, .int .i64 0]) ∧ xs.length ≤ c ∧ Bys8 w'.heap.size w' (.slice a xs.length c) xs ∧ Below w.heap.size w w'
set_option maxRecDepth 100000 in
set_option maxHeartbeats 2000000 in
theorem logOf_any (p : Pl) (d : Dv) (w : World) (h : DevAt w p d) (hu : d.down = false) (n : Nat) (h4 : 4 ≤ d.safe.length) (hn : n ≤ (d.safe.length - 2) * 128) :
    Calls Try.prog 28 #[ptr p.D, .int .i64 (n : Int)] w fun e w' => LogE w w' ((logB d (d.safe.length - 2)).take n) e := by
  have hacc : ∀ k : Nat, 2 + k < d.safe.length → accE d ((2 + k : Nat) : Int) = 0 := fun k hk => by
    unfold accE; rw [hu, if_neg (by simp), if_pos ⟨by omega, by omega⟩]
  have hmost := h.ok.most
  have H := Lib.hid (And.intro h (And.intro hu (And.intro h4 (And.intro hn (And.intro hacc hmost)))))
  have HLEN := Lib.hid (logB_len h.ok hu)
  obtain ⟨S, hS⟩ : ∃ S, d.safe.length = S := ⟨_, rfl⟩
  rw [hS] at hmost h4 hn HLEN
  have HSS := Lib.hid (And.intro hS (And.intro h4 (And.intro hn hmost)))
  unfold LogE
  rw [hS]
  obtain ⟨X, hX⟩ : ∃ X, (logB d (S - 2)).take n = X := ⟨_, rfl⟩
  have HXE := Lib.hid hX
  rw [hX]
  clear hX h hu h4 hn hacc hmost hS
  go_enter Try.func28, Try.ntmps28
  go_wp2_with fail
  go_loopw [6, 7] (fun s i wr => ∃ (k N : Nat) (a : Option Addr) (c : Nat), i = .int .i64 ((2 + k : Nat) : Int) ∧ 2 + k ≤ S ∧ N = 128 * k ∧ s = .slice a N c ∧ Own8 w.heap.size wr (.slice a N c) (logB d k) ∧ Below w.heap.size w wr) (fun _ i _ => (S + 1 - intOf i).toNat)
  case atStart => exact ⟨0, 0, none, 0, rfl, by have := HSS.out.2.1; omega, rfl, rfl, Own8.nil _ _, Below.refl _ _⟩
  case round =>
    obtain ⟨k, N, a, c, rfl, hk, hN, rfl, hO, hB⟩ := hrel
    by_cases hlt : N < n
    · have i1 : (N : Int) < (n : Int) := by omega
      have hk2 : 2 + k < S := by have := HSS.out.2.2.1; omega
      have hsec : Sec (d.read ((2 + k : Nat) : Int)) := read_sec H.out.1.ok (H.out.2.2.2.2.1 k (by rw [HSS.out.1]; exact hk2))
      have HR := Lib.hid (read_yes p d wr (H.out.1.below hB) ((2 + k : Nat) : Int) (H.out.2.2.2.2.1 k (by rw [HSS.out.1]; exact hk2)))
      have HNX := Lib.hid (logB_succ d k)
      obtain ⟨L, hL⟩ : ∃ L, d.read ((2 + k : Nat) : Int) = L := ⟨_, rfl⟩
      rw [hL] at hsec HR HNX
      have HSEC := Lib.hid hsec
      have HO := Lib.hid hO
      have HB := Lib.hid hB
      have HK := Lib.hid (And.intro hk2 hN)
      obtain ⟨q, hq⟩ : ∃ q, 2 + k = q := ⟨_, rfl⟩
      have HQ := Lib.hid hq
      have wk : wrap64 ((q : Int) + 1) = ((q + 1 : Nat) : Int) := wrap_succ (by have := HSS.out.2.2.2; omega)
      rw [hq] at HR ⊢
      have HN2 := Lib.hid (show (logB d (k + 1)).length = N + 128 by rw [HNX.out, List.length_append, HLEN.out k (by omega), hsec.1, hN])
      rw [HNX.out] at HN2
      clear hk hN hO hB hlt hk2 hsec hL hq
      go_wp2_with (first
        | (go_at_call 45; refine HR.out.mono ?_; rintro e w1 ⟨⟨g, hg, rfl, hat, hb1⟩, hl⟩; have HBB := Lib.hid (bys_at hat HSEC.out.2 128); have H1 := Lib.hid (And.intro (HO.out.below hb1 (Nat.le_refl _)) (HB.out.trans (hb1.mono HB.out.size))); rw [HSEC.out.1] at HBB; clear hg hat hb1 hl)
        | (at_builtin; refine bapp8N rfl _ _ rfl w.heap.size _ (logB d k) rfl H1.out.1 _ (some ⟨g, 0, none⟩) 128 128 L rfl HBB.out (N + 128) HN2.out (by have := HSS.out.2.2.2; have := HK.out.2; have := HK.out.1; omega) H1.out.2.size ?_; intro a2 c2 w2 hO2 hB2; have HO2 := Lib.hid (And.intro hO2 (H1.out.2.trans hB2)); clear hO2 hB2)
        | fail)
      go_roundw
      case rel => exact ⟨k + 1, N + 128, a2, c2, by first | rfl | (rw [wk]; have := HQ.out; congr 1; omega) | (have := HQ.out; congr 1; omega), by have := HK.out.1; omega, by have := HK.out.2; omega, by first | rfl | (congr 1; omega), by rw [HNX.out]; exact HO2.out.1, HO2.out.2⟩
      case measure =>
        have h1 := HQ.out
        have h2 := HK.out.1
        first
          | (clear wk; show ((S : Int) + 1 - ((q : Int) + 1)).toNat < ((S : Int) + 1 - (q : Int)).toNat; omega)
          | (rw [wk]; clear wk; show ((S : Int) + 1 - ((q + 1 : Nat) : Int)).toNat < ((S : Int) + 1 - (q : Int)).toNat; omega)
    · have i1 : ¬ ((N : Int) < (n : Int)) := by omega
      have hlk := HLEN.out k hk
      have hO' := hO.bys
      obtain ⟨a2, c2, hr, hb2, hc2⟩ := bys_to hO' (by omega) (by have := hO.cap; omega) n (by omega)
      rw [logB_take (n := n) H.out.1.ok H.out.2.1 (k := k) (m := S - 2) (by omega) (by rw [HSS.out.1]; omega) (by omega)] at hb2
      have hl2 : ((logB d (S - 2)).take n).length = n := by rw [List.length_take, HLEN.out (S - 2) (by have := HSS.out.2.1; omega)]; have := HSS.out.2.2.1; omega
      rw [HXE.out] at hb2 hl2
      have HX := Lib.hid (And.intro hb2 (And.intro hc2 (And.intro hl2 hB)))
      have hrw := hr wr
      clear hr hlk hO' hO hB hk hN hb2 hc2 hl2 hlt
      go_wp2_with fail
      go_ret2
      rw [HX.out.2.2.1]
      exact ⟨a2, c2, rfl, HX.out.2.1, HX.out.1, HX.out.2.2.2⟩
theorem quo_nat {n q : Nat} (h : n / 128 = q) : (n : Int).tdiv 128 = (q : Int) := by
  rw [Int.tdiv_eq_ediv_of_nonneg (by omega)]
  omega
theorem wrap_mul {q M : Nat} (h : q * 128 = M) (hM : M ≤ 1000000) : wrap64 ((q : Int) * 128) = (M : Int) := by
  rw [show (q : Int) * 128 = (M : Int) by omega]
  exact wrap_nat (by omega)
set_option maxRecDepth 100000 in
theorem partialOf_any {B : Nat} (a : Option Addr) (n c : Nat) (xs : List Int) (w : World) (h : Bys8 B w (.slice a n c) xs) (hn : n = xs.length) (hc : n ≤ c) (hB : B ≤ w.heap.size) (hl : n ≤ 1000000) :
    Calls Try.prog 30 #[.slice a n c] w (Made (xs.drop (n / 128 * 128)) w) := by
  obtain ⟨q, hq⟩ : ∃ q, n / 128 = q := ⟨_, rfl⟩
  obtain ⟨M, hM⟩ : ∃ M, q * 128 = M := ⟨_, rfl⟩
  have hMn : M ≤ n := by omega
  have hM6 : M ≤ 1000000 := by omega
  have hq6 : q < 9223372036854775808 := by omega
  obtain ⟨a2, n2, c2, hr, h2, h3, h4⟩ := bys_from h hn hc M hMn
  have HC := Lib.hid (clone_any a2 n2 c2 _ w h3 hB (by rw [List.length_drop]; omega))
  have hrw := hr w
  have td := quo_nat hq
  have w1 : wrap64 (q : Int) = (q : Int) := wrap_nat hq6
  have w2 := wrap_mul hM hM6
  rw [hq, hM]
  obtain ⟨Y, hY⟩ : ∃ Y, xs.drop M = Y := ⟨_, rfl⟩
  rw [hY] at HC ⊢
  clear h hn hc hB hl hr h2 h3 h4 hM hq hMn hM6 hq6 hY
  go_enter Try.func30, Try.ntmps30
  go_wp2_with (first | (go_at_call 32; refine HC.out.mono ?_; rintro e w1 ⟨a3, c3, rfl, hO, hb⟩; have HO := Lib.hid (And.intro hO hb); clear hO hb) | fail)
  go_ret
  exact ⟨a3, c3, rfl, HO.out⟩
end Go.Proofs.Ytpcbolmidnoaiaa
