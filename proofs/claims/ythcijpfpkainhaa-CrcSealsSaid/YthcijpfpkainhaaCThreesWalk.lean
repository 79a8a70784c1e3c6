/- The walk of the statement CrcThrees. -/
import Derived.Test.YthcijpfpkainhaaCOwn
import Derived.Test.YthcijpfpkainhaaCAlive
import Derived.Laws.Cover1
import Derived.Deep.QuietTactic
import Derived.BigQuiet
set_option linter.unusedVariables false
namespace Go.Proofs.Ythcijpfpkainhaa
open Go.RowKit Go.Shelf
/-- The cells 0 .. n - 1 of block g are the bytes f 0 .. f (n - 1), and may be written. -/
def Row (g n : Nat) (f : Nat → Int) (w : World) : Prop := ∀ j, j < n → w.cell? ⟨g, j, none⟩ = some (.int .u8 (f j)) ∧ w.frozen? ⟨g, j, none⟩ = false
theorem Row.set {g n : Nat} {f : Nat → Int} {w : World} (h : Row g n f w) (k : Nat) (v : Int) : Row g n (fun j => if j = k then v else f j) (w.setCell ⟨g, k, none⟩ (.int .u8 v)) := by
  intro j hj
  refine ⟨?_, (World.frozen?_setCell _ _ _ _).trans (h j hj).2⟩
  by_cases e : j = k
  · subst e
    simp only [if_true]
    exact World.cell?_setCell_same _ _ _ (h j hj).1
  · simp only [e, if_false]
    exact (World.cell?_setCell_other _ _ _ _ (fun q => e (by injection q with _ q2 _; exact q2.symm))).trans (h j hj).1
theorem Row.congr {g n : Nat} {f f' : Nat → Int} {w : World} (h : Row g n f w) (he : ∀ j, j < n → f j = f' j) : Row g n f' w :=
  fun j hj => ⟨by rw [← he j hj]; exact (h j hj).1, (h j hj).2⟩
theorem Row.drew {g n : Nat} {f : Nat → Int} {w : World} (h : Row g n f w) : Row g n f w.drew := h
theorem Row.bys {g n : Nat} {f : Nat → Int} {w : World} (h : Row g n f w) (hf : ∀ j, j < n → 0 ≤ f j ∧ f j < 256) (hg : g < w.heap.size) (cap : Nat) : Bys w.heap.size w (.slice (some ⟨g, 0, none⟩) n cap) (upto f n) := by
  refine ⟨?_, .inr ⟨g, 0, cap, by rw [upto_length], hg, ?_⟩⟩
  · intro x hx
    simp only [upto, List.mem_map, List.mem_range] at hx
    obtain ⟨j, hj, rfl⟩ := hx
    exact hf j hj
  · intro j hj
    rw [upto_length] at hj
    rw [Nat.zero_add, (h j hj).1]
    simp [upto, List.getD, hj]
theorem Own.row_cells {base g n cap : Nat} {w : World} {xs : List Value} (h : w.ownsRow base 5 1 (.slice (some ⟨g, 0, none⟩) n cap) n xs) (hx : ∀ j, j < n → xs[j]? = some (.int .u8 0)) : Row g n (fun _ => 0) w := by
  rcases h.2 with ⟨e, _⟩ | ⟨g', cap', cur, e, hg, hb, hn, hm, hs, ht⟩
  · cases e
  · cases e
    intro j hj
    have e1 := hx j hj
    rw [← ht, Nat.mul_one, List.getElem?_take_of_lt hj] at e1
    refine ⟨by simp only [World.cell?, hb]; simpa using e1, by simp [World.frozen?, hb]⟩
theorem made_zero (n j : Nat) (hj : j < n) : (madeCells (Value.int .u8 0).cells (n * 1)).toList[j]? = some (.int .u8 0) := by
  simp [madeCells, hj, Value.cells, Nat.mod_one]
/-- The bytes that are the exclusive or of three lists'. -/
def x3 (xs ys zs : List Int) (j : Nat) : Int := (((xs.getD j 0).toNat ^^^ (ys.getD j 0).toNat ^^^ (zs.getD j 0).toNat : Nat) : Int)
theorem bits3 (xs ys zs : List Int) (n : Nat) (hx : n ≤ xs.length) (hy : n ≤ ys.length) (hz : n ≤ zs.length) :
    bitsL (upto (x3 xs ys zs) n) = upto (fun j => (bitAt (xs.take n) j ^^ bitAt (ys.take n) j) ^^ bitAt (zs.take n) j) (8 * n) ∧ bitsL (xs.take n) = upto (bitAt (xs.take n)) (8 * n) := by
  constructor
  · unfold bitsL
    rw [upto_length]
    apply upto_congr
    intro j hj
    have h8 : j / 8 < n := by omega
    unfold bitAt
    have g : ∀ l : List Int, n ≤ l.length → (l.take n).getD (j / 8) 0 = l.getD (j / 8) 0 := fun l hl => by simp [List.getD, List.getElem?_take_of_lt h8]
    rw [g xs hx, g ys hy, g zs hz]
    have e : (upto (x3 xs ys zs) n).getD (j / 8) 0 = x3 xs ys zs (j / 8) := by simp [upto, List.getD, h8]
    rw [e, x3, Int.toNat_natCast, Nat.testBit_xor, Nat.testBit_xor]
  · unfold bitsL
    rw [List.length_take, Nat.min_eq_left hx]
theorem run3 (P s : Nat) (f g h : Nat → Bool) (n : Nat) : run P s (upto (fun j => (f j ^^ g j) ^^ h j) n) = run P s (upto f n) ^^^ run P s (upto g n) ^^^ run P s (upto h n) := by
  have e := run_xor P (fun j => f j ^^ g j) h n (s ^^^ s) s
  have e2 := run_xor P f g n s s
  rw [Nat.xor_self] at e e2
  rw [Nat.zero_xor, e2] at e
  exact e
theorem sum16_3 (xs ys zs : List Int) (n : Nat) (hx : n ≤ xs.length) (hy : n ≤ ys.length) (hz : n ≤ zs.length) :
    sum16 65535 (upto (x3 xs ys zs) n) = sum16 65535 (xs.take n) ^^^ sum16 65535 (ys.take n) ^^^ sum16 65535 (zs.take n) := by
  unfold sum16
  rw [(bits3 xs ys zs n hx hy hz).1, run3, (bits3 xs ys zs n hx hy hz).2, (bits3 ys xs zs n hy hx hz).2, (bits3 zs ys xs n hz hy hx).2]
theorem sum32_3 (xs ys zs : List Int) (n : Nat) (hx : n ≤ xs.length) (hy : n ≤ ys.length) (hz : n ≤ zs.length) :
    sum32 0 (upto (x3 xs ys zs) n) = sum32 0 (xs.take n) ^^^ sum32 0 (ys.take n) ^^^ sum32 0 (zs.take n) := by
  unfold sum32
  rw [(bits3 xs ys zs n hx hy hz).1, run3, (bits3 xs ys zs n hx hy hz).2, (bits3 ys xs zs n hy hx hz).2, (bits3 zs ys xs n hz hy hx).2]
  generalize run 3988292384 (4294967295 ^^^ 0) (upto (bitAt (xs.take n)) (8 * n)) = p
  generalize run 3988292384 (4294967295 ^^^ 0) (upto (bitAt (ys.take n)) (8 * n)) = q
  generalize run 3988292384 (4294967295 ^^^ 0) (upto (bitAt (zs.take n)) (8 * n)) = r
  generalize 4294967295 = m
  apply Nat.eq_of_testBit_eq
  intro i
  simp only [Nat.testBit_xor]
  cases m.testBit i <;> cases p.testBit i <;> cases q.testBit i <;> cases r.testBit i <;> rfl
theorem min3 (l m k n : Nat) (h : min (min l m) k = n) (ts : Array TypeId) (t : TypeId) (w : World) :
    (Builtin.min_ ts t #[.int .i64 l, .int .i64 m, .int .i64 k]).run Try.prog w = .ok (.int .i64 n) w := by
  rw [run_min_int3]
  refine congrArg (fun x => Result.ok (Value.int .i64 x) w) ?_
  subst h
  split <;> split at * <;> omega
set_option maxRecDepth 100000 in
set_option maxHeartbeats 2000000 in
theorem threes_any (a : Option Addr) (len cap : Nat) (za : List Int) (b : Option Addr) (lenb capb : Nat) (zb : List Int) (c : Option Addr) (lenc capc : Nat) (zc : List Int) (w : World) (ha : IsRow .u8 w a len cap za) (hb : IsRow .u8 w b lenb capb zb) (hc : IsRow .u8 w c lenc capc zc) :
    Calls Try.prog 9 #[.slice a len cap, .slice b lenb capb, .slice c lenc capc] w fun e w' => e = .returned (.bool true) ∧ Below w.heap.size w w' := by
  obtain ⟨xs, hx, hI⟩ := bys_of_row ha
  obtain ⟨ys, hy, hJ⟩ := bys_of_row hb
  obtain ⟨zs, hz, hK⟩ := bys_of_row hc
  obtain ⟨n, hn⟩ : ∃ n : Nat, min (min len lenb) lenc = n := ⟨_, rfl⟩
  have hmin := min3 len lenb lenc n hn
  have hc1 : n ≤ cap := by rcases ha with ⟨_, h1, h2, _⟩ | ⟨_, _, h1, _⟩ <;> omega
  have hc2 : n ≤ capb := by rcases hb with ⟨_, h1, h2, _⟩ | ⟨_, _, h1, _⟩ <;> omega
  have hc3 : n ≤ capc := by rcases hc with ⟨_, h1, h2, _⟩ | ⟨_, _, h1, _⟩ <;> omega
  clear ha hb hc
  by_cases hl : n ≤ 1000
  · have hgt : decide (1000 < (n : Int)) = false := by simp; omega
    obtain ⟨i0, hi, hz0, hz1, hz2⟩ := byte_parts
    have hA := hI.take n (by omega)
    have hB := hJ.take n (by omega)
    have hC := hK.take n (by omega)
    have hl1 : (xs.take n).length ≤ 100000000000000 := by simp; omega
    have hl2 : (ys.take n).length ≤ 100000000000000 := by simp; omega
    have hl3 : (zs.take n).length ≤ 100000000000000 := by simp; omega
    have e16 := Lib.hid (sum16_3 xs ys zs n (by omega) (by omega) (by omega))
    have e32 := Lib.hid (sum32_3 xs ys zs n (by omega) (by omega) (by omega))
    have hlx : n ≤ xs.length := by omega
    have hly : n ≤ ys.length := by omega
    have hlz : n ≤ zs.length := by omega
    have hxx : ∀ j, j < n → 0 ≤ x3 xs ys zs j ∧ x3 xs ys zs j < 256 := fun j hj => by
      have h1 := hI.1 (xs.getD j 0) (by simp [List.getD, show j < xs.length by omega])
      have h2 := hJ.1 (ys.getD j 0) (by simp [List.getD, show j < ys.length by omega])
      have h3 := hK.1 (zs.getD j 0) (by simp [List.getD, show j < zs.length by omega])
      unfold x3
      have : (xs.getD j 0).toNat ^^^ (ys.getD j 0).toNat ^^^ (zs.getD j 0).toNat < 256 := Nat.xor_lt_two_pow (n := 8) (Nat.xor_lt_two_pow (n := 8) (by omega) (by omega)) (by omega)
      omega
    have HXX := Lib.hid hxx
    have HI0 := Lib.hid hi
    have HZ0 := Lib.hid hz0
    have HZ1 := Lib.hid hz1
    have HZ2 := Lib.hid hz2
    clear hxx hi hz0 hz1 hz2
    rcases Nat.eq_zero_or_pos n with h0 | h0
    · have H0 := Lib.hid h0
      have HN := Lib.hid hn
      clear hx hy hz hn h0
      go_enter Try.func9, Try.ntmps9
      go_wp2_with fail
      refine (alive_any w).mono ?_
      rintro e w1 ⟨rfl, hB1⟩
      have hle := hB1.size
      go_wp2_with (at_make; refine wpList_make_full _ rfl _ _ 22 rfl w1.heap.size 5 i0 (.int .u8 0) 1 Try.underlying22 HI0.out HZ0.out HZ1.out _ _ _ _ n rfl rfl rfl rfl (by rw [HZ2.out]; omega) (by unfold maxLen; omega) (Nat.le_refl _) ?_; intro w2 hO2 hG2)
      have hR2 : Row w1.heap.size n (fun _ => 0) w2 := Own.row_cells hO2 (fun j hj => made_zero n j hj)
      have hB2 : Below w1.heap.size w1 w2 := (Below.refl _ _).grown hG2 (Nat.le_refl _) (by simp)
      have hg2 : w1.heap.size < w2.heap.size := by
        rcases hO2.2 with ⟨e, _⟩ | ⟨g', cap', cur, e, hg, hb, _⟩
        · cases e
        · cases e; exact (Array.getElem?_eq_some_iff.1 hb).1
      clear hO2 hG2
      go_loopw [30] (fun i wr => ∃ k : Nat, k ≤ n ∧ i = .int .i64 k ∧ Row w1.heap.size n (fun j => if j < k then x3 xs ys zs j else 0) wr ∧ Below w1.heap.size w1 wr ∧ w1.heap.size < wr.heap.size) (fun i _ => n - (intOf i).toNat)
      case atStart => exact ⟨0, Nat.zero_le _, rfl, hR2.congr (fun j _ => by simp), hB2, hg2⟩
      case round =>
        obtain ⟨k, hk, rfl, hRk, hBk, hgk⟩ := hrel
        by_cases hlt : k < n
        · exfalso; have := H0.out; omega
        · obtain rfl : k = n := by omega
          clear hB2 hg2 hR2
          go_wp2
          go_quiet (fail)
          have hX := (hRk.bys (fun j hj => by simp only [hj, if_true]; exact HXX.out j hj) hgk k)
          have hX' : Bys wr.heap.size wr (.slice (some ⟨w1.heap.size, 0, none⟩) k k) (upto (x3 xs ys zs) k) := by
            rw [← upto_congr (f := fun j => if j < k then x3 xs ys zs j else 0) (fun j hj => by simp only [hj, if_true])]; exact hX
          have hlx' : (upto (x3 xs ys zs) k).length ≤ 100000000000000 := by rw [upto_length]; omega
          have hB3 : Below w.heap.size w (wr.drewN nq) := below_drewN (hB1.trans (hBk.mono hle)) nq
          have hdx : Below wr.heap.size wr (wr.drewN nq) := below_drewN (Below.refl _ _) nq
          have cA16 := fun w' (h : Below w.heap.size w w') => sum16_any a k cap (xs.take k) hl1 w' ((hA.below h).mono h.size)
          have cB16 := fun w' (h : Below w.heap.size w w') => sum16_any b k capb (ys.take k) hl2 w' ((hB.below h).mono h.size)
          have cC16 := fun w' (h : Below w.heap.size w w') => sum16_any c k capc (zs.take k) hl3 w' ((hC.below h).mono h.size)
          have cA32 := fun w' (h : Below w.heap.size w w') => sum32_any a k cap (xs.take k) hl1 w' ((hA.below h).mono h.size)
          have cB32 := fun w' (h : Below w.heap.size w w') => sum32_any b k capb (ys.take k) hl2 w' ((hB.below h).mono h.size)
          have cC32 := fun w' (h : Below w.heap.size w w') => sum32_any c k capc (zs.take k) hl3 w' ((hC.below h).mono h.size)
          have cX16 := fun w' (h : Below wr.heap.size wr w') => sum16_any (some ⟨w1.heap.size, 0, none⟩) k k (upto (x3 xs ys zs) k) hlx' w' ((hX'.below h).mono h.size)
          have cX32 := fun w' (h : Below wr.heap.size wr w') => sum32_any (some ⟨w1.heap.size, 0, none⟩) k k (upto (x3 xs ys zs) k) hlx' w' ((hX'.below h).mono h.size)
          rw [e16.out] at cX16
          rw [e32.out] at cX32
          have lA := sum16_lt 65535 (xs.take k) (by decide)
          have lB := sum16_lt 65535 (ys.take k) (by decide)
          have lC := sum16_lt 65535 (zs.take k) (by decide)
          have mA := sum32_lt 0 (xs.take k) (by decide)
          have mB := sum32_lt 0 (ys.take k) (by decide)
          have mC := sum32_lt 0 (zs.take k) (by decide)
          have HA := Lib.hid hA
          have HB := Lib.hid hB
          have HC := Lib.hid hC
          clear hX hX' hA hB hC hRk e16 e32
          generalize sum16 65535 (xs.take k) = A16 at *
          generalize sum16 65535 (ys.take k) = B16 at *
          generalize sum16 65535 (zs.take k) = C16 at *
          generalize sum32 0 (xs.take k) = A32 at *
          generalize sum32 0 (ys.take k) = B32 at *
          generalize sum32 0 (zs.take k) = C32 at *
          have x1 := xor16 A16 B16 lA lB
          have x2 := xor16 (A16 ^^^ B16) C16 (Nat.xor_lt_two_pow (n := 16) lA lB) lC
          have y1 := xor32 A32 B32 mA mB
          have y2 := xor32 (A32 ^^^ B32) C32 (Nat.xor_lt_two_pow (n := 32) mA mB) mC
          clear lA lB lC mA mB mC
          generalize A16 ^^^ B16 = AB16 at *
          generalize AB16 ^^^ C16 = ABC16 at *
          generalize A32 ^^^ B32 = AB32 at *
          generalize AB32 ^^^ C32 = ABC32 at *
          generalize wr.drewN nq = w3 at *
          go_wp2_with fail
          refine (cX16 w3 hdx).mono ?_
          rintro e w4 ⟨rfl, h4⟩
          have g4 := hB3.trans (h4.mono hB3.size)
          have d4 := hdx.trans (h4.mono hdx.size)
          go_wp2_with fail
          refine (cA16 w4 g4).mono ?_
          rintro e w5 ⟨rfl, h5⟩
          have g5 := g4.trans (h5.mono g4.size)
          have d5 := d4.trans (h5.mono d4.size)
          go_wp2_with fail
          refine (cB16 w5 g5).mono ?_
          rintro e w6 ⟨rfl, h6⟩
          have g6 := g5.trans (h6.mono g5.size)
          have d6 := d5.trans (h6.mono d5.size)
          go_wp2_with fail
          refine (cC16 w6 g6).mono ?_
          rintro e w7 ⟨rfl, h7⟩
          have g7 := g6.trans (h7.mono g6.size)
          have d7 := d6.trans (h7.mono d6.size)
          go_wp2_with fail
          refine (cX32 w7 d7).mono ?_
          rintro e w8 ⟨rfl, h8⟩
          have g8 := g7.trans (h8.mono g7.size)
          go_wp2_with fail
          refine (cA32 w8 g8).mono ?_
          rintro e w9 ⟨rfl, h9⟩
          have g9 := g8.trans (h9.mono g8.size)
          go_wp2_with fail
          refine (cB32 w9 g9).mono ?_
          rintro e w10 ⟨rfl, h10⟩
          have g10 := g9.trans (h10.mono g9.size)
          go_wp2_with fail
          refine (cC32 w10 g10).mono ?_
          rintro e w11 ⟨rfl, h11⟩
          have g11 := g10.trans (h11.mono g10.size)
          go_wp2
          go_ret
          exact ⟨rfl, g11⟩
    · obtain ⟨hra, ⟨rfl, _⟩ | ⟨ba, offa, cap', ea, hba, hca⟩⟩ := hI
      · simp at hlx; omega
      obtain ⟨hrb, ⟨rfl, _⟩ | ⟨bb, offb, cap', eb, hbb, hcb⟩⟩ := hJ
      · simp at hly; omega
      obtain ⟨hrc, ⟨rfl, _⟩ | ⟨bc, offc, cap', ec, hbc, hcc⟩⟩ := hK
      · simp at hlz; omega
      cases ea
      cases eb
      cases ec
      have HCA := Lib.hid hca
      have HCB := Lib.hid hcb
      have HCC := Lib.hid hcc
      have HN := Lib.hid hn
      clear hca hcb hcc hn hx hy hz
      go_enter Try.func9, Try.ntmps9
      go_wp2_with fail
      refine (alive_any w).mono ?_
      rintro e w1 ⟨rfl, hB1⟩
      have hle := hB1.size
      go_wp2_with (at_make; refine wpList_make_full _ rfl _ _ 22 rfl w1.heap.size 5 i0 (.int .u8 0) 1 Try.underlying22 HI0.out HZ0.out HZ1.out _ _ _ _ n rfl rfl rfl rfl (by rw [HZ2.out]; omega) (by unfold maxLen; omega) (Nat.le_refl _) ?_; intro w2 hO2 hG2)
      have hR2 : Row w1.heap.size n (fun _ => 0) w2 := Own.row_cells hO2 (fun j hj => made_zero n j hj)
      have hB2 : Below w1.heap.size w1 w2 := (Below.refl _ _).grown hG2 (Nat.le_refl _) (by simp)
      have hg2 : w1.heap.size < w2.heap.size := by
        rcases hO2.2 with ⟨e, _⟩ | ⟨g', cap', cur, e, hg, hb, _⟩
        · cases e
        · cases e; exact (Array.getElem?_eq_some_iff.1 hb).1
      clear hO2 hG2
      go_loopw [30] (fun i wr => ∃ k : Nat, k ≤ n ∧ i = .int .i64 k ∧ Row w1.heap.size n (fun j => if j < k then x3 xs ys zs j else 0) wr ∧ Below w1.heap.size w1 wr ∧ w1.heap.size < wr.heap.size) (fun i _ => n - (intOf i).toNat)
      case atStart => exact ⟨0, Nat.zero_le _, rfl, hR2.congr (fun j _ => by simp), hB2, hg2⟩
      case round =>
        obtain ⟨k, hk, rfl, hRk, hBk, hgk⟩ := hrel
        by_cases hlt : k < n
        · have ca := (hBk.cell (p := ⟨ba, offa + k, none⟩) (by show ba < _; omega)).trans ((hB1.cell (p := ⟨ba, offa + k, none⟩) hba).trans (HCA.out k (by omega)))
          have cb := (hBk.cell (p := ⟨bb, offb + k, none⟩) (by show bb < _; omega)).trans ((hB1.cell (p := ⟨bb, offb + k, none⟩) hbb).trans (HCB.out k (by omega)))
          have cc := (hBk.cell (p := ⟨bc, offc + k, none⟩) (by show bc < _; omega)).trans ((hB1.cell (p := ⟨bc, offc + k, none⟩) hbc).trans (HCC.out k (by omega)))
          obtain ⟨cx, fx⟩ := hRk k hlt
          have va := hra (xs.getD k 0) (by simp [List.getD, show k < xs.length by omega])
          have vb := hrb (ys.getD k 0) (by simp [List.getD, show k < ys.length by omega])
          have vc := hrc (zs.getD k 0) (by simp [List.getD, show k < zs.length by omega])
          have EV : Hid (x3 xs ys zs k = (((xs.getD k 0).toNat ^^^ (ys.getD k 0).toNat ^^^ (zs.getD k 0).toNat : Nat) : Int)) := (rfl : x3 xs ys zs k = _)
          obtain ⟨p, hp⟩ : ∃ p : Nat, xs.getD k 0 = p := ⟨_, (Int.toNat_of_nonneg va.1).symm⟩
          obtain ⟨q, hq⟩ : ∃ p : Nat, ys.getD k 0 = p := ⟨_, (Int.toNat_of_nonneg vb.1).symm⟩
          obtain ⟨r, hr⟩ : ∃ p : Nat, zs.getD k 0 = p := ⟨_, (Int.toNat_of_nonneg vc.1).symm⟩
          rw [hp] at ca va EV
          rw [hq] at cb vb EV
          rw [hr] at cc vc EV
          simp only [Int.toNat_natCast] at EV
          have x1 := xor8 p q (by omega) (by omega)
          have x2 := xor8 (p ^^^ q) r (Nat.xor_lt_two_pow (n := 8) (by omega) (by omega)) (by omega)
          have HR := Lib.hid hRk
          clear hRk hp hq hr va vb vc hR2 hB2 hg2
          generalize p ^^^ q = pq at x1 x2 EV
          generalize pq ^^^ r = pqr at x2 EV
          go_wp2_with fail
          go_region
          go_wp2
          go_roundw
          case rel => exact ⟨k + 1, by omega, by simp, ((HR.out.set k pqr).drew).congr (fun j _ => by
            by_cases e : j = k
            · subst e; simp [EV.out]
            · simp only [e, if_false]; by_cases h : j < k <;> simp [h] <;> omega), (hBk.setCell (p := ⟨w1.heap.size, k, none⟩) (Nat.le_refl _) _).drew, by simpa using hgk⟩
          case measure => simp [intOf]; omega
        · obtain rfl : k = n := by omega
          clear hB2 hg2 hR2
          go_wp2
          go_quiet (fail)
          have hX := (hRk.bys (fun j hj => by simp only [hj, if_true]; exact HXX.out j hj) hgk k)
          have hX' : Bys wr.heap.size wr (.slice (some ⟨w1.heap.size, 0, none⟩) k k) (upto (x3 xs ys zs) k) := by
            rw [← upto_congr (f := fun j => if j < k then x3 xs ys zs j else 0) (fun j hj => by simp only [hj, if_true])]; exact hX
          have hlx' : (upto (x3 xs ys zs) k).length ≤ 100000000000000 := by rw [upto_length]; omega
          have hB3 : Below w.heap.size w (wr.drewN nq) := below_drewN (hB1.trans (hBk.mono hle)) nq
          have hdx : Below wr.heap.size wr (wr.drewN nq) := below_drewN (Below.refl _ _) nq
          have cA16 := fun w' (h : Below w.heap.size w w') => sum16_any _ k cap (xs.take k) hl1 w' ((hA.below h).mono h.size)
          have cB16 := fun w' (h : Below w.heap.size w w') => sum16_any _ k capb (ys.take k) hl2 w' ((hB.below h).mono h.size)
          have cC16 := fun w' (h : Below w.heap.size w w') => sum16_any _ k capc (zs.take k) hl3 w' ((hC.below h).mono h.size)
          have cA32 := fun w' (h : Below w.heap.size w w') => sum32_any _ k cap (xs.take k) hl1 w' ((hA.below h).mono h.size)
          have cB32 := fun w' (h : Below w.heap.size w w') => sum32_any _ k capb (ys.take k) hl2 w' ((hB.below h).mono h.size)
          have cC32 := fun w' (h : Below w.heap.size w w') => sum32_any _ k capc (zs.take k) hl3 w' ((hC.below h).mono h.size)
          have cX16 := fun w' (h : Below wr.heap.size wr w') => sum16_any (some ⟨w1.heap.size, 0, none⟩) k k (upto (x3 xs ys zs) k) hlx' w' ((hX'.below h).mono h.size)
          have cX32 := fun w' (h : Below wr.heap.size wr w') => sum32_any (some ⟨w1.heap.size, 0, none⟩) k k (upto (x3 xs ys zs) k) hlx' w' ((hX'.below h).mono h.size)
          rw [e16.out] at cX16
          rw [e32.out] at cX32
          have lA := sum16_lt 65535 (xs.take k) (by decide)
          have lB := sum16_lt 65535 (ys.take k) (by decide)
          have lC := sum16_lt 65535 (zs.take k) (by decide)
          have mA := sum32_lt 0 (xs.take k) (by decide)
          have mB := sum32_lt 0 (ys.take k) (by decide)
          have mC := sum32_lt 0 (zs.take k) (by decide)
          have HA := Lib.hid hA
          have HB := Lib.hid hB
          have HC := Lib.hid hC
          clear hX hX' hA hB hC hRk e16 e32
          generalize sum16 65535 (xs.take k) = A16 at *
          generalize sum16 65535 (ys.take k) = B16 at *
          generalize sum16 65535 (zs.take k) = C16 at *
          generalize sum32 0 (xs.take k) = A32 at *
          generalize sum32 0 (ys.take k) = B32 at *
          generalize sum32 0 (zs.take k) = C32 at *
          have x1 := xor16 A16 B16 lA lB
          have x2 := xor16 (A16 ^^^ B16) C16 (Nat.xor_lt_two_pow (n := 16) lA lB) lC
          have y1 := xor32 A32 B32 mA mB
          have y2 := xor32 (A32 ^^^ B32) C32 (Nat.xor_lt_two_pow (n := 32) mA mB) mC
          clear lA lB lC mA mB mC
          generalize A16 ^^^ B16 = AB16 at *
          generalize AB16 ^^^ C16 = ABC16 at *
          generalize A32 ^^^ B32 = AB32 at *
          generalize AB32 ^^^ C32 = ABC32 at *
          generalize wr.drewN nq = w3 at *
          go_wp2_with fail
          refine (cX16 w3 hdx).mono ?_
          rintro e w4 ⟨rfl, h4⟩
          have g4 := hB3.trans (h4.mono hB3.size)
          have d4 := hdx.trans (h4.mono hdx.size)
          go_wp2_with fail
          refine (cA16 w4 g4).mono ?_
          rintro e w5 ⟨rfl, h5⟩
          have g5 := g4.trans (h5.mono g4.size)
          have d5 := d4.trans (h5.mono d4.size)
          go_wp2_with fail
          refine (cB16 w5 g5).mono ?_
          rintro e w6 ⟨rfl, h6⟩
          have g6 := g5.trans (h6.mono g5.size)
          have d6 := d5.trans (h6.mono d5.size)
          go_wp2_with fail
          refine (cC16 w6 g6).mono ?_
          rintro e w7 ⟨rfl, h7⟩
          have g7 := g6.trans (h7.mono g6.size)
          have d7 := d6.trans (h7.mono d6.size)
          go_wp2_with fail
          refine (cX32 w7 d7).mono ?_
          rintro e w8 ⟨rfl, h8⟩
          have g8 := g7.trans (h8.mono g7.size)
          go_wp2_with fail
          refine (cA32 w8 g8).mono ?_
          rintro e w9 ⟨rfl, h9⟩
          have g9 := g8.trans (h9.mono g8.size)
          go_wp2_with fail
          refine (cB32 w9 g9).mono ?_
          rintro e w10 ⟨rfl, h10⟩
          have g10 := g9.trans (h10.mono g9.size)
          go_wp2_with fail
          refine (cC32 w10 g10).mono ?_
          rintro e w11 ⟨rfl, h11⟩
          have g11 := g10.trans (h11.mono g10.size)
          go_wp2
          go_ret
          exact ⟨rfl, g11⟩
  · have hl' : 1000 < n := by omega
    clear hx hy hz hn hl hI hJ hK
    go_enter Try.func9, Try.ntmps9
    go_wp2_with fail
    refine (alive_any w).mono ?_
    rintro e w1 ⟨rfl, hB1⟩
    go_wp2
    go_ret
    exact ⟨rfl, hB1⟩
end Go.Proofs.Ythcijpfpkainhaa
