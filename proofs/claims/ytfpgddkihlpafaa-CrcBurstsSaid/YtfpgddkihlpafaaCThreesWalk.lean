/- The walk of the statement CrcThrees. -/
import Derived.Test.YtfpgddkihlpafaaCOwn
import Derived.Test.YtfpgddkihlpafaaCAlive
import Derived.Laws.Cover1
import Derived.Deep.QuietTactic
import Derived.BigQuiet
set_option linter.unusedVariables false
namespace Go.Proofs.Ytfpgddkihlpafaa
open Go.RowKit Go.Shelf
/-- The cells 0 .. n - 1 of block g are the bytes f 0 .. f (n - 1), and may be written. -/
def Row (g n : Nat) (f : Nat → Int) (w : World) : Prop := ∀ j, j < n → w.cell? ⟨g, j, none⟩ = some (.int .u8 (f j)) ∧ w.frozen? ⟨g, j, none⟩ = false
theorem Row.set {g n : Nat} {f : Nat → Int} {w : World} (h : Row g n f w) (k : Nat) (v : Int) : Row g n (fun j => if j = k then v else f j) (w.setCell ⟨g, k, none⟩ (.int .u8 v)) := by
  intro j hj
  refine ⟨?_, (World.frozen?_setCell _ _ _ _).trans (h j hj).2⟩
  by_cases e : j = k
  · subst e
    simp only [if_true]
    exact World.cell?_setCell_same _ _ _ (h j hj).1
  · simp only [e, if_false]
    exact (World.cell?_setCell_other _ _ _ _ (fun q => e (by injection q with _ q2 _; exact q2.symm))).trans (h j hj).1
theorem Row.congr {g n : Nat} {f f' : Nat → Int} {w : World} (h : Row g n f w) (he : ∀ j, j < n → f j = f' j) : Row g n f' w :=
  fun j hj => ⟨by rw [← he j hj]; exact (h j hj).1, (h j hj).2⟩
theorem Row.drew {g n : Nat} {f : Nat → Int} {w : World} (h : Row g n f w) : Row g n f w.drew := h
theorem Row.bys {g n : Nat} {f : Nat → Int} {w : World} (h : Row g n f w) (hf : ∀ j, j < n → 0 ≤ f j ∧ f j < 256) (hg : g < w.heap.size) (cap : Nat) : Bys w.heap.size w (.slice (some ⟨g, 0, none⟩) n cap) (upto f n) := by
  refine ⟨?_, .inr ⟨g, 0, cap, by rw [upto_length], hg, ?_⟩⟩
  · intro x hx
    simp only [upto, List.mem_map, List.mem_range] at hx
    obtain ⟨j, hj, rfl⟩ := hx
    exact hf j hj
  · intro j hj
    rw [upto_length] at hj
    rw [Nat.zero_add, (h j hj).1]
    simp [upto, List.getD, hj]
theorem Own.row_cells {base g n cap : Nat} {w : World} {xs : List Value} (h : w.ownsRow base 5 1 (.slice (some ⟨g, 0, none⟩) n cap) n xs) (hx : ∀ j, j < n → xs[j]? = some (.int .u8 0)) : Row g n (fun _ => 0) w := by
  rcases h.2 with ⟨e, _⟩ | ⟨g', cap', cur, e, hg, hb, hn, hm, hs, ht⟩
  · cases e
  · cases e
    intro j hj
    have e1 := hx j hj
    rw [← ht, Nat.mul_one, List.getElem?_take_of_lt hj] at e1
    refine ⟨by simp only [World.cell?, hb]; simpa using e1, by simp [World.frozen?, hb]⟩
theorem made_zero (n j : Nat) (hj : j < n) : (madeCells (Value.int .u8 0).cells (n * 1)).toList[j]? = some (.int .u8 0) := by
  simp [madeCells, hj, Value.cells, Nat.mod_one]
/-- The bytes that are the exclusive or of three lists'. -/
def x3 (xs ys zs : List Int) (j : Nat) : Int := (((xs.getD j 0).toNat ^^^ (ys.getD j 0).toNat ^^^ (zs.getD j 0).toNat : Nat) : Int)
theorem bits3 (xs ys zs : List Int) (n : Nat) (hx : n ≤ xs.length) (hy : n ≤ ys.length) (hz : n ≤ zs.length) :
    bitsL (upto (x3 xs ys zs) n) = upto (fun j => (bitAt (xs.take n) j ^^ bitAt (ys.take n) j) ^^ bitAt (zs.take n) j) (8 * n) ∧ bitsL (xs.take n) = upto (bitAt (xs.take n)) (8 * n) := by
  constructor
  · unfold bitsL
    rw [upto_length]
    apply upto_congr
    intro j hj
    have h8 : j / 8 < n := by omega
    unfold bitAt
    have g : ∀ l : List Int, n ≤ l.length → (l.take n).getD (j / 8) 0 = l.getD (j / 8) 0 := fun l hl => by simp [List.getD, List.getElem?_take_of_lt h8]
    rw [g xs hx, g ys hy, g zs hz]
    have e : (upto (x3 xs ys zs) n).getD (j / 8) 0 = x3 xs ys zs (j / 8) := by simp [upto, List.getD, h8]
    rw [e, x3, Int.toNat_natCast, Nat.testBit_xor, Nat.testBit_xor]
  · unfold bitsL
    rw [List.length_take, Nat.min_eq_left hx]
theorem run3 (P s : Nat) (f g h : Nat → Bool) (n : Nat) : run P s (upto (fun j => (f j ^^ g j) ^^ h j) n) = run P s (upto f n) ^^^ run P s (upto g n) ^^^ run P s (upto h n) := by
  have e := run_xor P (fun j => f j ^^ g j) h n (s ^^^ s) s
  have e2 := run_xor P f g n s s
  rw [Nat.xor_self] at e e2
  rw [Nat.zero_xor, e2] at e
  exact e
theorem sum16_3 (xs ys zs : List Int) (n : Nat) (hx : n ≤ xs.length) (hy : n ≤ ys.length) (hz : n ≤ zs.length) :
    sum16 65535 (upto (x3 xs ys zs) n) = sum16 65535 (xs.take n) ^^^ sum16 65535 (ys.take n) ^^^ sum16 65535 (zs.take n) := by
  unfold sum16
  rw [(bits3 xs ys zs n hx hy hz).1, run3, (bits3 xs ys zs n hx hy hz).2, (bits3 ys xs zs n hy hx hz).2, (bits3 zs ys xs n hz hy hx).2]
theorem sum32_3 (xs ys zs : List Int) (n : Nat) (hx : n ≤ xs.length) (hy : n ≤ ys.length) (hz : n ≤ zs.length) :
    sum32 0 (upto (x3 xs ys zs) n) = sum32 0 (xs.take n) ^^^ sum32 0 (ys.take n) ^^^ sum32 0 (zs.take n) := by
  unfold sum32
  rw [(bits3 xs ys zs n hx hy hz).1, run3, (bits3 xs ys zs n hx hy hz).2, (bits3 ys xs zs n hy hx hz).2, (bits3 zs ys xs n hz hy hx).2]
  generalize run 3988292384 (4294967295 ^^^ 0) (upto (bitAt (xs.take n)) (8 * n)) = p
  generalize run 3988292384 (4294967295 ^^^ 0) (upto (bitAt (ys.take n)) (8 * n)) = q
  generalize run 3988292384 (4294967295 ^^^ 0) (upto (bitAt (zs.take n)) (8 * n)) = r
  generalize 4294967295 = m
  apply Nat.eq_of_testBit_eq
  intro i
  simp only [Nat.testBit_xor]
  cases m.testBit i <;> cases p.testBit i <;> cases q.testBit i <;> cases r.testBit i <;> rfl
theorem min3 (l m k n : Nat) (h : min (min l m) k = n) (ts : Array TypeId) (t : TypeId) (w : World) :
    (Builtin.min_ ts t #[.int .i64 l, .int .i64 m, .int .i64 k]).run Try.prog w = .ok (.int .i64 n) w := by
  rw [run_min_int3]
  refine congrArg (fun x => Result.ok (Value.int .i64 x) w) ?_
  subst h
  split <;> split at * <;> omega
end Go.Proofs.Ytfpgddkihlpafaa
