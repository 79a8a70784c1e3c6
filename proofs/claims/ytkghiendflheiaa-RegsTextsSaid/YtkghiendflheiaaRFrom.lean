/- FromBytes: the registers of bytes. -/
import Derived.Test.YtkghiendflheiaaRPairs
import Derived.Test.YtkghiendflheiaaRS8
import Derived.Test.YtkghiendflheiaaRS16
import Derived.Laws.EntriesVeiled
import Derived.WalkSmall
set_option linter.unusedVariables false
namespace Go.Proofs.Ytkghiendflheiaa
open Go.RowKit Go.Shelf
attribute [local go_sem] Oper.semAt_some
/-- The registers of bytes, two by two. -/
def pairsL (xs : List Int) : List Int := (List.range (xs.length / 2)).map fun j => xs.getD (2 * j) 0 * 256 + xs.getD (2 * j + 1) 0
theorem pairsL_len (xs : List Int) : (pairsL xs).length = xs.length / 2 := by simp [pairsL]
def nums (ys : List U16) : List Int := ys.map (·.1)
theorem nums_snoc (ys : List U16) (x : U16) : nums (ys ++ [x]) = nums ys ++ [x.1] := by simp [nums]
theorem nums_bd (ys : List U16) : ∀ x ∈ nums ys, 0 ≤ x ∧ x < 65536 := by
  intro x hx
  simp only [nums, List.mem_map] at hx
  obtain ⟨y, _, rfl⟩ := hx
  have := y.2
  omega
set_option maxRecDepth 100000 in
set_option maxHeartbeats 1000000 in
theorem pairs1_nil (n : Nat) (l Bs : Nat) (a : Option Addr) (cap : Nat) (J : List U16 → World → Prop) (W : World) (hBs : W.cell? ⟨Bs, 0, none⟩ = some (.slice a 0 cap)) (h0 : J [] W) :
    CallsIn Fence.wide n Try.prog 31 #[.func (.yield l) #[] #[], .pointer (some ⟨Bs, 0, none⟩)] W fun e W' => (∃ v, e = .returned v) ∧ J [] W' := by
  refine callsIn_of_wp Try.func31 rfl trivial ?_ rfl
  simp only [Try.ntmps31, List.size_toArray, List.length_cons, List.length_nil, Nat.reduceAdd, Nat.reduceSub, Array.replicate_succ, Array.replicate_zero, List.push_toArray, List.append_toArray, List.nil_append, List.cons_append]
  gi_wp2
  gi_loopw [3] (fun i wr => i = .int .i64 0 ∧ wr = W) (fun _ _ => 0)
  case atStart => exact ⟨rfl, rfl⟩
  case round =>
    obtain ⟨rfl, rfl⟩ := hrel
    gi_wp2
    go_end0
    exact ⟨⟨_, rfl⟩, h0⟩
theorem pairs_stops (n : Nat) (hn : 1 ≤ n) (Bs n₀ : Nat) (a : Option Addr) (L cap : Nat) (xs : List Int) (m : Nat) (hL : L = 2 * m) (hm : m ≤ 1000000000000000) (w : World) (hBs : Bs < w.heap.size) (hn₀ : n₀ ≤ w.heap.size)
    (hc : Boxed w Bs 23 (.slice a L cap)) (hI : Bys8 n₀ w (.slice a L cap) xs) :
    SeqStopsK Fence.wide n Try.prog 31 #[.pointer (some ⟨Bs, 0, none⟩)] (fun x : U16 => #[Value.int .u16 x.1]) (KeepB n₀ Bs) (fun ys => nums ys = pairsL xs) (fun _ => True) m w := fun l J Jx W hW hJ _ hY h0 => by
  have hc' : Boxed W Bs 23 (.slice a L cap) := (hW.block Bs hBs).trans hc
  have hI' := hI.below (hW.mono hn₀)
  have hbd := hI.bd
  obtain ⟨hr, ⟨rfl, a', cap', e⟩ | ⟨b, off, cap', e, hb, hcs⟩⟩ := hI'
  · cases e
    exact (pairs1_nil n l Bs a cap J W hc'.cell h0).mono fun e W' ⟨he, hj⟩ => ⟨he, .inl ⟨_, rfl, hj⟩⟩
  · cases e
    refine (pairs1_in n hn l Bs n₀ b off m cap _ hL (fun j => ⟨xs.getD j 0, by have := hbd j; omega⟩) hm hb J Jx hY (fun s W h => hJ s W W.drew none h ⟨rfl, rfl, rfl, Nat.le_refl _, fun _ _ _ => rfl⟩ (by intro r e; cases e)) W hc' (fun j hj => hcs j (by omega)) h0).mono ?_
    rintro e W' ⟨he, ⟨ys, rfl, hj⟩ | ⟨pre, ⟨k, hk, rfl⟩, hj⟩⟩
    · refine ⟨he, .inl ⟨_, ?_, hj⟩⟩
      simp only [nums, upto, pairsL, List.map_map]
      rw [hL, Nat.mul_div_cancel_left _ (by decide)]
      rfl
    · exact ⟨he, .inr ⟨_, trivial, hj⟩⟩
set_option maxHeartbeats 1000000 in
theorem pairs_any (a : Option Addr) (len cap : Nat) (w : World) :
    Calls Try.prog 21 #[.slice a len cap] w fun e w' => e = .returned (.func (.func 31) #[] #[.pointer (some ⟨w.heap.size, 0, none⟩)]) ∧ w' = w.alloc (.cells #[.slice a len cap] 23) := by
  go_enter Try.func21, Try.ntmps21
  go_wp2
  go_ret
  exact ⟨rfl, rfl⟩
def Regs (ls : List Int) (k : Int) (w : World) (e : Ending) (w' : World) : Prop := ∃ a c, e = .returned (.tuple #[.slice a ls.length c, .int .i64 k]) ∧ Own16 w.heap.size w' (.slice a ls.length c) ls ∧ Below w.heap.size w w'
set_option maxRecDepth 100000 in
set_option maxHeartbeats 1000000 in
theorem from_odd (a : Option Addr) (len cap : Nat) (w : World) (h : len % 2 = 1) (hl : len ≤ 1000000) :
    Calls Try.prog 9 #[.slice a len cap] w (Regs [] 20 w) := by
  have h2 : (len : Int) % 2 = 1 := by omega
  have h3 : ((len : Int) % 2 == 0) = false := by simp; omega
  clear h
  go_enter Try.func9, Try.ntmps9
  go_wp2
  exact bodyPost_ret (v := .tuple #[.slice none 0 0, .int .i64 20]) (by simp [results, Try.results9, go_sem]) rfl ⟨none, 0, rfl, Own16.nil _ _, Below.refl _ _⟩
set_option maxRecDepth 100000 in
set_option maxHeartbeats 2000000 in
theorem from_even (a : Option Addr) (len cap : Nat) (xs : List Int) (m : Nat) (hm : len = 2 * m) (hl : m ≤ 500000) (w : World) (hI : Bys8 w.heap.size w (.slice a len cap) xs) :
    Calls Try.prog 9 #[.slice a len cap] w (Regs (pairsL xs) 0 w) := by
  obtain ⟨i0, hi, hz0, hz1, hz2⟩ := parts16
  have h2 : (len : Int) % 2 = 0 := by omega
  have h3 : (len : Int) / 2 = m := by omega
  have hlb : len ≤ 1000000 := by omega
  have HM := Lib.hid hm
  have HI0 := Lib.hid hi
  have HZ0 := Lib.hid hz0
  have HZ1 := Lib.hid hz1
  have HZ2 := Lib.hid hz2
  clear hm hi hz0 hz1 hz2
  refine (callsIn_wide (n := 4)).1 ?_
  refine callsIn_of_wp_marks Try.func9 rfl trivial ?_ rfl
  simp only [Try.ntmps9, List.size_toArray, List.length_cons, List.length_nil, Nat.reduceAdd, Nat.reduceSub, Array.replicate_succ, Array.replicate_zero, List.push_toArray, List.append_toArray, List.nil_append, List.cons_append]
  refine wpIn_wide.2 ?_
  go_wp2_with (first
    | (at_make; refine wpList_make_own _ rfl _ _ 22 rfl w.heap.size 33 i0 (.int .u16 0) 1 Try.underlying22 HI0.out HZ0.out HZ1.out .i64 .i64 _ m rfl rfl (by first | rfl | omega) (by rw [HZ2.out]; omega) (by unfold maxLen; omega) (Nat.le_refl _) ?_; intro w1 hO1 hG1
       have hB1 : Below w.heap.size w w1 := (Below.refl _ _).grown hG1 (Nat.le_refl _) (by simp)
       have hP1 : Own16 w.heap.size w1 (.slice (some ⟨w.heap.size, 0, none⟩) 0 m) [] := ⟨by simp, hO1⟩
       have hz1 : w.heap.size < w1.heap.size := by
         rcases hO1.2 with ⟨e, _⟩ | ⟨g', cap', cur, e, hg, hb, _⟩
         · cases e
         · cases e; exact (Array.getElem?_eq_some_iff.1 hb).1
       clear hO1 hG1)
    | (go_at_call 21; refine (pairs_any _ _ _ _).mono ?_; rintro e w' ⟨rfl, rfl⟩)
    | fail)
  have bL := Boxed.new w1 22 (.slice (some ⟨w.heap.size, 0, none⟩) 0 m)
  have bN := Boxed.new (w1.alloc (.cells #[.slice (some ⟨w.heap.size, 0, none⟩) 0 m] 22)) 23 (.slice a len cap)
  simp only [World.size_alloc] at bN
  have hle := hB1.size
  have hB0 : Below w.heap.size w ((w1.alloc (.cells #[.slice (some ⟨w.heap.size, 0, none⟩) 0 m] 22)).alloc (.cells #[.slice a len cap] 23)) := (hB1.alloc hle _).alloc (by simp; omega) _
  have hb1 : Below w1.heap.size w1 ((w1.alloc (.cells #[.slice (some ⟨w.heap.size, 0, none⟩) 0 m] 22)).alloc (.cells #[.slice a len cap] 23)) := ((Below.refl _ _).alloc (Nat.le_refl _) _).alloc (by simp) _
  have hO2 := hP1.below hb1 (Nat.le_refl _)
  refine (wpIn_wide (n := 4)).1 (wpIn_rangeFunc_ownG rfl (by omega) (gf := 31) (lb := #[.pointer (some ⟨w1.heap.size + 1, 0, none⟩)]) rfl trivial (enters_of Try.func31 (by kernel_rfl) rfl)
    (pairs_stops (4 - 1) (by omega) (w1.heap.size + 1) w.heap.size a len cap xs m HM.out (by omega) _ (by simp) (by simp; omega) bN (hI.below hB0)) KeepB.trans (keepB_b (by simp; omega)) (Below.refl _ _) (fun _ => rfl)
    (fun pre W => (Holds16 w.heap.size w1.heap.size (nums pre) W ∧ pre.length ≤ m) ∧ Below w.heap.size w W)
    (fun _ _ _ => False)
    (OwnFrom.and (Own.from (fun s A B row hs hg hr => ⟨holds16_own w.heap.size w1.heap.size nums s A B row hs.1 hg hr, hs.2⟩) _) (ownFrom_below (Nat.le_refl _) (by simp; omega)))
    (fun _ _ _ _ _ hs _ _ => hs)
    ⟨⟨⟨_, bL.alloc _, hO2⟩, by simp⟩, hB0⟩
    (fun x => { tmps := #[.slice a len cap, undef, .slice none 0 0, .int .i64 0, .pointer (some ⟨w1.heap.size, 0, none⟩), .int .u16 x.1, .slice a len cap, .int .i64 len, .int .i64 0, .bool false, .slice a len cap, .int .i64 len, .int .i64 m, .slice (some ⟨w.heap.size, 0, none⟩) 0 m, .slice a len cap, .func (.func 31) #[] #[.pointer (some ⟨w1.heap.size + 1, 0, none⟩)], .int .u16 x.1, undef, undef, undef, undef, undef], defers := [] }) ?assign ?body ?done ?stop)
  case assign =>
    intro l x W K hK
    gi_wp2
    exact hK
  case body =>
    rintro l pre x W ⟨⟨⟨v, hv, hO⟩, hlen⟩, hB⟩ hlt
    obtain ⟨a', c', rfl⟩ := hO.form
    have hvc := hv.cell
    have hvf := hv.frozen
    have hs := hB.size
    have hnl : (nums pre).length < m := by simpa [nums] using hlt
    have hbo := bys16_alloc (T := 33) W [x.1] (by intro y hy; simp at hy; subst hy; have := x.2; omega) #[.int .u16 x.1] rfl 1 1 rfl (0, 0)
    have hOa : Own16 w.heap.size (W.alloc (.cells #[.int .u16 x.1] 33)) (.slice a' (nums pre).length c') (nums pre) := hO.below ((Below.refl _ _).alloc (Nat.le_refl _) _) (Nat.le_refl _)
    gi_wp2_with (first
      | (gi_at_builtin; refine wpListIn_bapp16 rfl (.tmp 17) (.tmp 19) rfl w.heap.size _ (nums pre) rfl hOa _ (some ⟨W.heap.size, 0, none⟩) 1 1 [x.1] rfl hbo (by simp; omega) (by simp; omega) ?_; intro a2 c2 W2 hO2' hG2
         obtain ⟨hk1, hk2, hk3, hk4, hk5⟩ := hv.appended (by decide) hO.2 hs (by omega) hO2'.2 hG2
         have sc := hk1.cell
         have sf := hk1.frozen))
    have hkb : KeepB w.heap.size (w1.heap.size + 1) W (W2.setCell ⟨w1.heap.size, 0, none⟩ (.slice a2 (nums pre ++ [x.1]).length c2)) := by
      refine ⟨hk5, fun sv hb => ?_⟩
      have h1 := (hb.alloc (.cells #[.int .u16 x.1] 33)).kept hG2 (hb.not_row (by decide) hO.2)
      exact h1.kept (grownBy_setCell' _ _ _) (by simp)
    have e1 : nums pre ++ [x.1] = nums (pre ++ [x]) := (nums_snoc pre x).symm
    have hf2 : Own16 w.heap.size (W2.setCell ⟨w1.heap.size, 0, none⟩ (.slice a2 (nums pre ++ [x.1]).length c2)) (.slice a2 (nums pre ++ [x.1]).length c2) (nums pre ++ [x.1]) := ⟨hO2'.1, hk3⟩
    have e2 : (nums pre).length + 1 = (nums pre ++ [x.1]).length := by simp
    rw [e2]
    refine ⟨hk4.from _, hkb, ⟨⟨_, hk2, by rw [← e1]; exact hf2⟩, by simp; omega⟩, hB.trans hk5⟩
  case done =>
    rintro D ys W hD hys ⟨⟨⟨v, hv, hO⟩, hlen⟩, hB⟩ hK
    rw [hys] at hO
    obtain ⟨a', c', rfl⟩ := hO.form
    have hvc := hv.cell
    go_wp2
    refine ⟨by simp, .inl ⟨_, _, rfl, run_takeDeferred hK, ?_⟩⟩
    exact ⟨_, results_tmp2 rfl _ _ _, ⟨a', c', rfl, ⟨hO.1, ownsRow_putObj hO.2 _ hK rfl⟩, hB.trans (belowK_b (w := w) (Nat.le_refl _) _ D _ _ (by simp at hD; omega) hK rfl rfl)⟩⟩
  case stop =>
    rintro D c pre W _ _ h _
    exact h.elim
end Go.Proofs.Ytkghiendflheiaa
