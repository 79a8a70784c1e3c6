/- halves, Bytes: the bytes of registers. -/
import Derived.Test.YtkghiendflheiaaRVal
set_option linter.unusedVariables false
namespace Go.Proofs.Ytkghiendflheiaa
open Go.RowKit Go.Shelf
attribute [local go_sem] Oper.semAt_some
/-- The bytes of registers, two each, the upper one first. -/
def bytesL (ls : List Int) : List Int := ls.flatMap fun w => [w / 256, w % 256]
theorem bytesL_snoc (ls : List Int) (x : Int) : bytesL (ls ++ [x]) = bytesL ls ++ [x / 256, x % 256] := by simp [bytesL]
theorem bytesL_len (ls : List Int) : (bytesL ls).length = 2 * ls.length := by
  induction ls with
  | nil => rfl
  | cons x l ih => simp only [bytesL, List.flatMap_cons, List.length_append, List.length_cons, List.length_nil] at ih ⊢; omega
set_option maxHeartbeats 1000000 in
theorem halves_any (n : Int) (h0 : 0 ≤ n) (h1 : n < 65536) (w : World) :
    Calls Try.prog 20 #[.int .u16 n] w fun e w' => e = .returned (.agg #[.int .u8 (n / 256), .int .u8 (n % 256)]) ∧ Below w.heap.size w w' := by
  have e1 : IntKind.u8.wrap (n / 256) = n / 256 := by rw [IntKind.wrap_u8]; omega
  have e2 : IntKind.u8.wrap n = n % 256 := by rw [IntKind.wrap_u8]
  go_enter Try.func20, Try.ntmps20
  go_wp2
  exact bodyPost_ret (v := .agg #[.int .u8 (n / 256), .int .u8 (n % 256)]) (by simp [results, Try.results20, go_sem]) rfl ⟨rfl, (Below.refl _ _).alloc (Nat.le_refl _) _⟩
set_option maxRecDepth 100000 in
set_option maxHeartbeats 2000000 in
theorem bytes_any (a : Option Addr) (len cap : Nat) (ls : List Int) (hl : len ≤ 500000) (w : World) (hI : Bys16 w.heap.size w (.slice a len cap) ls) :
    Calls Try.prog 8 #[.slice a len cap] w fun e w' => ∃ a' c', e = .returned (.slice a' (2 * len) c') ∧ Own8 w.heap.size w' (.slice a' (2 * len) c') (bytesL ls) ∧ Below w.heap.size w w' := by
  obtain ⟨i0, hi, hz0, hz1, hz2⟩ := parts8
  obtain ⟨a', c', e⟩ := hI.is
  cases e
  have HI0 := Lib.hid hi
  have HZ0 := Lib.hid hz0
  have HZ1 := Lib.hid hz1
  have HZ2 := Lib.hid hz2
  clear hi hz0 hz1 hz2
  refine (callsIn_wide (n := 4)).1 ?_
  refine callsIn_of_wp_marks Try.func8 rfl trivial ?_ rfl
  simp only [Try.ntmps8, List.size_toArray, List.length_cons, List.length_nil, Nat.reduceAdd, Nat.reduceSub, Array.replicate_succ, Array.replicate_zero, List.push_toArray, List.append_toArray, List.nil_append, List.cons_append]
  refine wpIn_wide.2 ?_
  go_wp2_with (first
    | (at_make; refine wpList_make_own _ rfl _ _ 23 rfl w.heap.size 5 i0 (.int .u8 0) 1 Try.underlying23 HI0.out HZ0.out HZ1.out .i64 .i64 _ (2 * ls.length) rfl rfl (by first | rfl | omega) (by rw [HZ2.out]; omega) (by unfold maxLen; omega) (Nat.le_refl _) ?_; intro w1 hO1 hG1
       have hB1 : Below w.heap.size w w1 := (Below.refl _ _).grown hG1 (Nat.le_refl _) (by simp)
       have hP1 : Own8 w.heap.size w1 (.slice (some ⟨w.heap.size, 0, none⟩) 0 (2 * ls.length)) [] := ⟨by simp, hO1⟩
       clear hO1 hG1)
    | (go_at_call 19; refine (callsIn_wide.1 (values_in Fence.wide 3 trivial rfl _ _ _ _)).mono ?_; rintro e w' ⟨rfl, rfl⟩)
    | fail)
  have bL := Boxed.new w1 23 (.slice (some ⟨w.heap.size, 0, none⟩) 0 (2 * ls.length))
  have bN := Boxed.new (w1.alloc (.cells #[.slice (some ⟨w.heap.size, 0, none⟩) 0 (2 * ls.length)] 23)) 22 (.slice a ls.length cap)
  simp only [World.size_alloc] at bN
  have hle := hB1.size
  have hB0 : Below w.heap.size w ((w1.alloc (.cells #[.slice (some ⟨w.heap.size, 0, none⟩) 0 (2 * ls.length)] 23)).alloc (.cells #[.slice a ls.length cap] 22)) := (hB1.alloc hle _).alloc (by simp; omega) _
  have hb1 : Below w1.heap.size w1 ((w1.alloc (.cells #[.slice (some ⟨w.heap.size, 0, none⟩) 0 (2 * ls.length)] 23)).alloc (.cells #[.slice a ls.length cap] 22)) := ((Below.refl _ _).alloc (Nat.le_refl _) _).alloc (by simp) _
  have hO2 := hP1.below hb1 (Nat.le_refl _)
  refine (wpIn_wide (n := 4)).1 (wpIn_rangeFunc_ownG rfl (by omega) (gf := 30) (lb := #[.pointer (some ⟨w1.heap.size + 1, 0, none⟩)]) rfl trivial (enters_of Try.func30 (by kernel_rfl) rfl)
    (values_stops Fence.wide (4 - 1) trivial rfl (by omega) (w1.heap.size + 1) w.heap.size _ ls (by omega) _ (by simp) (by simp; omega) bN.cell (hI.below hB0)) belowK_t (belowK_b (by simp; omega)) (Below.refl _ _) (fun _ => rfl)
    (fun pre W => (Holds8 w.heap.size w1.heap.size (bytesL (nums pre)) W ∧ pre.length ≤ ls.length) ∧ Below w.heap.size w W)
    (fun _ _ _ => False)
    (OwnFrom.and (Own.from (fun s A B row hs hg hr => ⟨holds8_own w.heap.size w1.heap.size (fun s => bytesL (nums s)) s A B row hs.1 hg hr, hs.2⟩) _) (ownFrom_below (Nat.le_refl _) (by simp; omega)))
    (fun _ _ _ _ _ hs _ _ => hs)
    ⟨⟨⟨_, bL.alloc _, hO2⟩, by simp⟩, hB0⟩
    (fun x => { tmps := #[.slice a ls.length cap, undef, .slice none 0 0, .pointer (some ⟨w1.heap.size, 0, none⟩), .int .u16 x.1, undef, .slice a ls.length cap, .int .i64 ls.length, .int .i64 (2 * ls.length), .slice (some ⟨w.heap.size, 0, none⟩) 0 (2 * ls.length), .slice a ls.length cap, .func (.func 30) #[] #[.pointer (some ⟨w1.heap.size + 1, 0, none⟩)], .int .u16 x.1, undef, undef, undef, undef, undef, undef], defers := [] }) ?assign ?body ?done ?stop)
  case assign =>
    intro l x W K hK
    gi_wp2
    exact hK
  case body =>
    rintro l pre x W ⟨⟨⟨v, hv, hO⟩, hlen⟩, hB⟩ hlt
    obtain ⟨a', c', rfl⟩ := hO.form
    have hs := hB.size
    have hnl : (bytesL (nums pre)).length < 2 * ls.length := by rw [bytesL_len]; simp [nums]; omega
    have hx := x.2
    have hh := halves_any x.1 hx.1 (by omega) W
    have hmx : Try.prog.follows .mixedOrders = true := by kernel_rfl
    gi_wp2_with (refine ⟨trivial, ?_⟩; gi_at_call 20; refine (CallsIn.inRound l (callsIn_wide.2 hh)).mono ?_; rintro e W1 ⟨rfl, hW1⟩)
    have hv1 : Boxed W1 w1.heap.size 23 (.slice a' (bytesL (nums pre)).length c') := (hW1.block _ hv.lt).trans hv
    have hO1 := hO.below hW1 (Nat.le_refl _)
    have hsz := hW1.size
    have hvc := hv1.cell
    have hvlt := hv1.lt
    have hv2 := (hv1.alloc (.cells #[.int .u8 (x.1 / 256), .int .u8 (x.1 % 256)] 48)).cell
    refine regionIn_tail (wide_round _ _ _) 2 hmx (by kernel_rfl) rfl ?_
    simp only [List.take_succ_cons, List.take_zero, List.drop_succ_cons, List.drop_zero]
    repeat still_step
    refine wpStill_nil ?_
    have hsW := hO1.2
    have b0 : 0 ≤ x.1 / 256 ∧ x.1 / 256 < 256 := by omega
    have b1 : 0 ≤ x.1 % 256 ∧ x.1 % 256 < 256 := by omega
    have hbo := bys8_alloc (T := 48) W1 [x.1 / 256, x.1 % 256] (by intro y hy; simp at hy; rcases hy with rfl | rfl <;> assumption) #[.int .u8 (x.1 / 256), .int .u8 (x.1 % 256)] rfl 2 2 rfl (0, 0)
    have hal : Below W1.heap.size W1 (W1.alloc (.cells #[.int .u8 (x.1 / 256), .int .u8 (x.1 % 256)] 48)).drew := ((Below.refl _ _).alloc (Nat.le_refl _) _).drew
    have hOa := hO1.below hal (Nat.le_refl _)
    have hnl2 : (bytesL (nums pre)).length + 2 ≤ 10000000000000 := by omega
    clear b0 b1 hx
    gi_wp2_with (first
      | (gi_at_builtin; refine wpListIn_bapp8 rfl (.tmp 15) (.tmp 16) rfl w.heap.size _ (bytesL (nums pre)) rfl hOa _ (some ⟨W1.heap.size, 0, none⟩) 2 2 [x.1 / 256, x.1 % 256] rfl hbo hnl2 (by simp; omega) ?_; intro a2 c2 W2 hO2' hG2
         obtain ⟨hk1, hk2, hk3, hk4, hk5⟩ := hv1.appended (w1 := W2) (tmp := .cells #[.int .u8 (x.1 / 256), .int .u8 (x.1 % 256)] 48) (by decide) hO1.2 (by omega) (by omega) hO2'.2 ⟨hG2.os, hG2.tape, hG2.output, hG2.size, hG2.block⟩
         have sc := hk1.cell
         have sf := hk1.frozen))
    have e1 : bytesL (nums pre) ++ [x.1 / 256, x.1 % 256] = bytesL (nums (pre ++ [x])) := by rw [nums_snoc, bytesL_snoc]
    have hf2 : Own8 w.heap.size (W2.setCell ⟨w1.heap.size, 0, none⟩ (.slice a2 (bytesL (nums pre) ++ [x.1 / 256, x.1 % 256]).length c2)) (.slice a2 (bytesL (nums pre) ++ [x.1 / 256, x.1 % 256]).length c2) (bytesL (nums pre) ++ [x.1 / 256, x.1 % 256]) := ⟨hO2'.1, hk3⟩
    have e2 : (bytesL (nums pre)).length + 2 = (bytesL (nums pre) ++ [x.1 / 256, x.1 % 256]).length := by simp
    rw [e2]
    have hWB : Below w.heap.size W W1 := hW1.mono hs
    refine ⟨((others8_of_below hW1).trans hk4).from _, hWB.trans hk5, ⟨⟨_, hk2, by rw [← e1]; exact hf2⟩, by simp; omega⟩, hB.trans (hWB.trans hk5)⟩
  case done =>
    rintro D ys W hD hys ⟨⟨⟨v, hv, hO⟩, hlen⟩, hB⟩ hK
    rw [hys] at hO
    obtain ⟨a', c', rfl⟩ := hO.form
    rw [bytesL_len] at hO hv
    have hvc := hv.cell
    go_wp2
    refine ⟨by simp, .inl ⟨_, _, rfl, run_takeDeferred hK, ?_⟩⟩
    exact ⟨_, results_tmp rfl _ _ _, a', c', rfl, ⟨hO.1, ownsRow_putObj hO.2 _ hK rfl⟩, hB.trans (belowK_b (w := w) (Nat.le_refl _) _ D _ _ (by simp at hD; omega) hK rfl rfl)⟩
  case stop =>
    rintro D c pre W _ _ h _
    exact h.elim
end Go.Proofs.Ytkghiendflheiaa
