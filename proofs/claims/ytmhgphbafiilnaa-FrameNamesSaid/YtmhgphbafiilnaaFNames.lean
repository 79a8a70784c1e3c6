/- The walk of FrameNames. -/
import Derived.Test.YtmhgphbafiilnaaFSpoilt
set_option linter.unusedVariables false
set_option linter.unusedSimpArgs false
namespace Go.Proofs.Ytmhgphbafiilnaa
open Go.RowKit Go.Shelf
theorem fr_bc : frameL [98, 99] = [0, 2, 161, 176, 50, 181, 98, 99] := by decide +kernel
theorem fr_ab : frameL [97, 98] = [0, 2, 253, 154, 81, 224, 97, 98] := by decide +kernel
theorem wh_0 : whyOf [0] = 1 := by decide +kernel
theorem wh_6 : whyOf [0, 0, 0, 0, 0, 0] = 2 := by decide +kernel
theorem wh_c : whyOf [0, 2, 253, 154, 81, 224, 97, 99] = 3 := by decide +kernel
theorem rep8 (n : Nat) : Byt (List.replicate n 0) := fun x hx => by rw [List.eq_of_mem_replicate hx]; omega
theorem made_rep (n : Nat) : (madeCells (Value.int .u8 0).cells (n * 1)).toList = vals8 (List.replicate n 0) := by
  apply List.ext_getElem?
  intro j
  by_cases hj : j < n
  · rw [made8_zero n j hj]; simp [vals8, hj]
  · rw [List.getElem?_eq_none (by simp [madeCells]; omega), List.getElem?_eq_none (by simp [vals8]; omega)]
/-- make([]byte, n). -/
theorem make8 {w : World} {ops : Array Oper} {rest : List Oper} {o : Oper} {a : Act} {Q : Exit → Act → World → Prop} (hgd : o.guard = none) (x y : Operand) (ho : o.op = .makeSlice 23 x y) (n : Nat) (hx : a.eval x = .int .i64 (n : Int)) (hy : a.eval y = .int .i64 (n : Int)) (hn : n ≤ 100000)
    (h : ∀ w', Own8 w.heap.size w' (.slice (some ⟨w.heap.size, 0, none⟩) n n) (List.replicate n 0) → Below w.heap.size w w' → wpList Try.prog ops Q rest (a.put o.dst (.slice (some ⟨w.heap.size, 0, none⟩) n n)) w') : wpList Try.prog ops Q (o :: rest) a w := by
  obtain ⟨i, hi, hz, hs, hb⟩ := parts8
  obtain ⟨w', e, e2, e3⟩ := run_makeSlice_full (P := Try.prog) w w.heap.size 23 5 i _ 1 Try.underlying23 hi hz hs .i64 .i64 n (by omega) (by rw [hb]; omega) (by unfold maxLen; omega) (Nat.le_refl _)
  refine wpList_plain hgd fun K hK => ?_
  unfold Oper.wp execOp
  simp only [ho, hx, hy, Sem.run_bind, Sem.run_pure, Result.andThen_ok, e]
  refine hK _ _ (h w' ⟨rep8 n, ?_⟩ ((Below.refl _ _).grown e3 (Nat.le_refl _) (fun k e => by cases e)))
  rw [made_rep] at e2
  simpa using e2
set_option maxRecDepth 100000 in
set_option maxHeartbeats 1000000 in
theorem two_bss (w : World) : BssAt (w.heap.size + 3) (((w.alloc (.cells #[.int .u8 97] 5 (1, 2))).alloc (.cells #[.int .u8 98, .int .u8 99] 5 (2, 3))).alloc (.cells #[.slice (some ⟨w.heap.size, 0, none⟩) 1 1, .slice (some ⟨w.heap.size + 1, 0, none⟩) 2 2] 23)) (some ⟨w.heap.size + 2, 0, none⟩) [[97], [98, 99]] := by
  have s1 : (w.alloc (.cells #[.int .u8 97] 5 (1, 2))).heap.size = w.heap.size + 1 := World.size_alloc _ _
  have s2 : ((w.alloc (.cells #[.int .u8 97] 5 (1, 2))).alloc (.cells #[.int .u8 98, .int .u8 99] 5 (2, 3))).heap.size = w.heap.size + 2 := by rw [World.size_alloc, s1]
  have s3 : (((w.alloc (.cells #[.int .u8 97] 5 (1, 2))).alloc (.cells #[.int .u8 98, .int .u8 99] 5 (2, 3))).alloc (.cells #[.slice (some ⟨w.heap.size, 0, none⟩) 1 1, .slice (some ⟨w.heap.size + 1, 0, none⟩) 2 2] 23)).heap.size = w.heap.size + 3 := by rw [World.size_alloc, s2]
  have b1 := ((bys8_alloc (T := 5) w [97] (by simp) #[.int .u8 97] rfl 1 1 rfl (1, 2)).grow ((Below.refl _ _).alloc (Nat.le_refl _) (.cells #[.int .u8 98, .int .u8 99] 5 (2, 3)))).grow ((Below.refl _ _).alloc (Nat.le_refl _) (.cells #[.slice (some ⟨w.heap.size, 0, none⟩) 1 1, .slice (some ⟨w.heap.size + 1, 0, none⟩) 2 2] 23))
  have b2 := (bys8_alloc (T := 5) (w.alloc (.cells #[.int .u8 97] 5 (1, 2))) [98, 99] (by simp) #[.int .u8 98, .int .u8 99] rfl 2 2 rfl (2, 3)).grow ((Below.refl _ _).alloc (Nat.le_refl _) (.cells #[.slice (some ⟨w.heap.size, 0, none⟩) 1 1, .slice (some ⟨w.heap.size + 1, 0, none⟩) 2 2] 23))
  rw [s3] at b1 b2
  rw [s1] at b2
  have hn := World.alloc_heap_new ((w.alloc (.cells #[.int .u8 97] 5 (1, 2))).alloc (.cells #[.int .u8 98, .int .u8 99] 5 (2, 3))) (.cells #[.slice (some ⟨w.heap.size, 0, none⟩) 1 1, .slice (some ⟨w.heap.size + 1, 0, none⟩) 2 2] 23)
  rw [s2] at hn
  intro i L hi
  match i, hi with
  | 0, hi => cases hi; exact ⟨w.heap.size + 2, 0, _, 1, rfl, by omega, cell_of_row _ _ 0 _ _ _ hn, Nat.le_refl _, b1⟩
  | 1, hi => cases hi; exact ⟨w.heap.size + 2, 0, _, 2, rfl, by omega, cell_of_row _ _ 1 _ _ _ hn, Nat.le_refl _, b2⟩
def bL : List Int := [0, 1, 220, 239, 185, 157, 97, 0, 2, 161, 176, 50, 181, 98, 99]
theorem b_all : ([[97], [98, 99]].map frameL).flatten = bL := by
  rw [List.map_cons, List.map_cons, List.map_nil, fr_a, fr_bc]; rfl
theorem rec2 : ∀ L ∈ [[(97 : Int)], [98, 99]], RecL L := fun L hL => by
  simp at hL
  rcases hL with rfl | rfl <;> (unfold RecL; simp)
theorem n_all (w : World) : Calls Try.prog 9 #[.slice (some ⟨w.heap.size + 1 + 1, 0, none⟩) 2 2] (((w.alloc (.cells #[.int .u8 97] 5 (1, 2))).alloc (.cells #[.int .u8 98, .int .u8 99] 5 (2, 3))).alloc (.cells #[.slice (some ⟨w.heap.size, 0, none⟩) 1 1, .slice (some ⟨w.heap.size + 1, 0, none⟩) 2 2] 23)) fun e w' =>
    ∃ a c, e = .returned (.tuple #[.slice a 15 c, .int .i64 0]) ∧ Own8 w.heap.size w' (.slice a 15 c) bL ∧ Below w.heap.size w w' := by
  have hb := two_bss w
  have hB3 : Below w.heap.size w (((w.alloc (.cells #[.int .u8 97] 5 (1, 2))).alloc (.cells #[.int .u8 98, .int .u8 99] 5 (2, 3))).alloc (.cells #[.slice (some ⟨w.heap.size, 0, none⟩) 1 1, .slice (some ⟨w.heap.size + 1, 0, none⟩) 2 2] 23)) := (((Below.refl _ w).alloc (Nat.le_refl _) _).alloc (by simp) _).alloc (by simp; omega) _
  have s3 : (((w.alloc (.cells #[.int .u8 97] 5 (1, 2))).alloc (.cells #[.int .u8 98, .int .u8 99] 5 (2, 3))).alloc (.cells #[.slice (some ⟨w.heap.size, 0, none⟩) 1 1, .slice (some ⟨w.heap.size + 1, 0, none⟩) 2 2] 23)).heap.size = w.heap.size + 3 := by simp [World.size_alloc]
  refine (all_any (some ⟨w.heap.size + 2, 0, none⟩) 2 [[97], [98, 99]] _ (by rw [s3]; exact hb) (by unfold sizeN; rw [b_all]; simp [bL]) (by simp)).mono ?_
  rintro e w' (⟨_, a, c, he, hO, hB⟩ | ⟨q, _⟩)
  · rw [b_all] at he hO
    exact ⟨a, c, he, hO.le hB3.size, hB3.trans (hB.mono hB3.size)⟩
  · exact absurd rec2 q
theorem n_scan (a : Option Addr) (c : Nat) (w : World) (h : Bys8 w.heap.size w (.slice a 16 c) (bL ++ [0])) (hc : 16 ≤ c) : Calls Try.prog 13 #[.slice a 16 c] w fun e w' => ∃ a' c', e = .returned (.tuple #[.slice a' 2 c', .int .i64 15]) ∧ Below w.heap.size w w' := by
  have k0 : Scans [0] [] [0] := why_ne (k := 0) wh_0
  have k := scans_more rec2 k0
  rw [b_all] at k
  refine (scan_any a 16 c _ _ _ w h hc k (by simp [bL])).mono ?_
  rintro e w' ⟨a', c', he, _, _, hB⟩
  have hz : sizeN ([[97], [98, 99]] ++ []) = 15 := by rw [List.append_nil]; unfold sizeN; rw [b_all]; rfl
  rw [hz] at he
  exact ⟨a', c', he, hB⟩
theorem n_why (a : Option Addr) (c : Nat) (w : World) (h : Bys8 w.heap.size w (.slice a 16 c) (bL ++ [0])) (hc : 16 ≤ c) : Calls Try.prog 14 #[.slice a 16 c] w fun e w' => e = .returned (.int .i64 1) ∧ Below w.heap.size w w' := by
  have k0 : Scans [0] [] [0] := why_ne (k := 0) wh_0
  have k := scans_more rec2 k0
  rw [b_all] at k
  have h1 := why_any a 16 c _ _ _ w h hc k (by simp [bL])
  rw [show tailWhy [0] = 1 by unfold tailWhy; rw [if_neg (by simp), wh_0]] at h1
  exact h1
theorem n_exact (a : Option Addr) (c : Nat) (w : World) (h : Bys8 w.heap.size w (.slice a 16 c) (bL ++ [0])) (hc : 16 ≤ c) : Calls Try.prog 16 #[.slice a 16 c] w fun e w' => e = .returned (.tuple #[.slice none 0 0, .int .i64 130]) ∧ Below w.heap.size w w' := by
  have k0 : Scans [0] [] [0] := why_ne (k := 0) wh_0
  have k := scans_more rec2 k0
  rw [b_all] at k
  refine (exact_any a 16 c _ _ _ w h hc k (by simp [bL])).mono ?_
  rintro e w' (⟨q, _⟩ | ⟨_, he, hB⟩)
  · simp at q
  · exact ⟨he, hB⟩
theorem n_six (a : Option Addr) (c : Nat) (w : World) (h : Bys8 w.heap.size w (.slice a 6 c) (List.replicate 6 0)) (hc : 6 ≤ c) : Calls Try.prog 14 #[.slice a 6 c] w fun e w' => e = .returned (.int .i64 2) ∧ Below w.heap.size w w' := by
  have k : Scans [0, 0, 0, 0, 0, 0] [] [0, 0, 0, 0, 0, 0] := why_ne (k := 1) wh_6
  have h1 := why_any a 6 c _ _ _ w h hc k (by simp)
  rw [show tailWhy [0, 0, 0, 0, 0, 0] = 2 by unfold tailWhy; rw [if_neg (by simp), wh_6]] at h1
  exact h1
theorem n_ab (w : World) : Calls Try.prog 11 #[.slice none 0 0, .slice (some ⟨w.heap.size, 0, none⟩) 2 2] (w.alloc (.cells #[.int .u8 97, .int .u8 98] 5 (2, 3))) fun e w' =>
    ∃ a c, e = .returned (.tuple #[.slice a 8 c, .int .i64 0]) ∧ Own8 w.heap.size w' (.slice a 8 c) [0, 2, 253, 154, 81, 224, 97, 98] ∧ Below w.heap.size w w' := by
  have hp := put_nil (some ⟨w.heap.size, 0, none⟩) 2 2 [97, 98] _ (bys8_alloc (T := 5) w [97, 98] (by simp) #[.int .u8 97, .int .u8 98] rfl 2 2 rfl (2, 3)) ⟨by simp, by simp⟩
  unfold Gives at hp
  rw [fr_ab] at hp
  refine hp.mono ?_
  rintro e w' ⟨a, c, he, hO, hB⟩
  have h1 : Below w.heap.size w (w.alloc (.cells #[.int .u8 97, .int .u8 98] 5 (2, 3))) := (Below.refl _ _).alloc (Nat.le_refl _) _
  exact ⟨a, c, he, hO.le h1.size, h1.trans (hB.mono h1.size)⟩
theorem n_big (a : Option Addr) (c : Nat) (w : World) (h : Bys8 w.heap.size w (.slice a 4096 c) (List.replicate 4096 0)) : Calls Try.prog 11 #[.slice none 0 0, .slice a 4096 c] w fun e w' => ∃ a' n' c', e = .returned (.tuple #[.slice a' n' c', .int .i64 0]) ∧ Below w.heap.size w w' := by
  refine (put_nil a 4096 c _ w h (by unfold RecL; rw [List.length_replicate]; omega)).mono ?_
  rintro e w' ⟨a', c', he, _, hB⟩
  exact ⟨a', _, c', he, hB⟩
def cL : List Int := [0, 2, 253, 154, 81, 224, 97, 99]
set_option maxRecDepth 100000 in
set_option maxHeartbeats 4000000 in
theorem namesW (w : World) : Calls Try.prog 4 #[] w fun e w' => e = .returned (.bool true) ∧ Below w.heap.size w w' := by
  have hcv := fun (w : World) (C : Array Value) (n c : Nat) => Lib.run_convert_bytes_const (P := Try.prog) w 23 5 C n c Try.underlying23 Try.underlying5
  have hcv2 := hcv (w.alloc (.cells #[.int .u8 97] 5 (1, 2))) #[.int .u8 98, .int .u8 99] 2 2
  rw [World.size_alloc] at hcv2
  go_enter Try.func4, Try.ntmps4
  go_wp2_with fail
  refine (n_all w).mono ?_
  rintro e w1 ⟨a1, c1, rfl, hO1, hB1⟩
  clear hcv2
  have hO1e := hO1.below ((Below.refl _ w1).alloc (Nat.le_refl _) (.cells #[.int .u8 0] 5)) (Nat.le_refl _)
  have hZ1 := bys8_alloc (T := 5) w1 [0] (by simp) #[.int .u8 0] rfl 1 1 rfl (0, 0)
  have hB1e := hB1.alloc hB1.size (.cells #[.int .u8 0] 5)
  go_wp2_with (at_builtin; refine bapp8N rfl (.tmp 33) (.tmp 34) rfl w.heap.size _ bL rfl hO1e _ _ 1 1 [0] rfl hZ1 16 rfl (by omega) hB1e.size ?_; intro a2 c2 w2 hO2 hB2)
  have hB02 := hB1e.trans hB2
  have b2 := hO2.bys
  have bc := hO2.cap
  clear hO1 hO1e hZ1 hO2 hB2
  refine (n_scan a2 c2 w2 b2 bc).mono ?_
  rintro e w3 ⟨a3, c3, rfl, hB3⟩
  have b3 := b2.grow hB3
  have hB03 := hB02.trans (hB3.mono hB02.size)
  clear b2 hB3
  go_wp2_with fail
  refine (n_why a2 c2 w3 b3 bc).mono ?_
  rintro e w4 ⟨rfl, hB4⟩
  have b4 := b3.grow hB4
  have hB04 := hB03.trans (hB4.mono hB03.size)
  clear b3 hB4
  go_wp2_with (refine make8 rfl _ _ rfl 6 rfl rfl (by omega) ?_; intro w5 hO5 hB5)
  have b5 := b4.grow hB5
  have hB05 := hB04.trans (hB5.mono hB04.size)
  clear b4 hB5
  refine (n_six _ 6 w5 hO5.bys (Nat.le_refl _)).mono ?_
  rintro e w6 ⟨rfl, hB6⟩
  have b6 := b5.grow hB6
  have hB06 := hB05.trans (hB6.mono hB05.size)
  clear b5 hB6 hO5
  go_wp2_with fail
  refine (n_ab w6).mono ?_
  rintro e w7 ⟨a7, c7, rfl, hO7, hB7⟩
  have b7 := b6.grow hB7
  have hB07 := hB06.trans (hB7.mono hB06.size)
  obtain ⟨g, rfl, hg, hf⟩ := hO7.gblock (by decide)
  obtain ⟨g', hgg, hc7⟩ := hO7.num (by simp)
  obtain rfl : g = g' := by cases hgg; rfl
  have c77 := hc7 7 98 rfl
  have f77 := hf 7
  have hS := hO7.stored 7 99 (by omega)
  have hB8 : Below w6.heap.size w6 (w7.setCell ⟨g, 7, none⟩ (.int .u8 99)) := hB7.setCell (p := ⟨g, 7, none⟩) hg _
  have s8 : (w7.setCell ⟨g, 7, none⟩ (.int .u8 99)).heap.size = w7.heap.size := World.size_setCell _ _ _
  have cc := hS.cap
  have q8 := hS.bys
  have b8 := b6.grow hB8
  have hB08 := hB06.trans (hB8.mono hB06.size)
  have hw8 := why_sp (some ⟨g, 0, none⟩) 8 c7 cL _ q8 cc (by simp [cL]) wh_c
  clear hO7 hc7 hf hS b6 b7 hB07 hB7 hB8 hcv
  go_wp2_with fail
  refine hw8.mono ?_
  rintro e w9 ⟨rfl, hB9⟩
  have q9 := q8.grow hB9
  have b9 := b8.grow hB9
  have hB09 := hB08.trans (hB9.mono hB08.size)
  clear hw8 q8 b8 hB9 s8 c77 f77
  go_wp2_with fail
  refine (put_no none 0 0 none 0 0 w9 (by omega)).mono ?_
  rintro e w10 ⟨rfl, hB10⟩
  have q10 := q9.grow hB10
  have b10 := b9.grow hB10
  have hB010 := hB09.trans (hB10.mono hB09.size)
  clear q9 b9 hB10
  go_wp2_with (refine make8 rfl _ _ rfl 4097 rfl rfl (by omega) ?_; intro w11 hO11 hB11)
  have q11 := q10.grow hB11
  have b11 := b10.grow hB11
  have hB011 := hB010.trans (hB11.mono hB010.size)
  clear q10 b10 hB11 hO11
  refine (put_no none 0 0 _ 4097 4097 w11 (by omega)).mono ?_
  rintro e w12 ⟨rfl, hB12⟩
  have q12 := q11.grow hB12
  have b12 := b11.grow hB12
  have hB012 := hB011.trans (hB12.mono hB011.size)
  clear q11 b11 hB12
  go_wp2_with (refine make8 rfl _ _ rfl 4096 rfl rfl (by omega) ?_; intro w13 hO13 hB13)
  have q13 := q12.grow hB13
  have b13 := b12.grow hB13
  have hB013 := hB012.trans (hB13.mono hB012.size)
  clear q12 b12 hB13
  refine (n_big _ 4096 w13 hO13.bys).mono ?_
  rintro e w14 ⟨a14, n14, c14, rfl, hB14⟩
  have q14 := q13.grow hB14
  have b14 := b13.grow hB14
  have hB014 := hB013.trans (hB14.mono hB013.size)
  clear q13 b13 hB14 hO13
  go_wp2_with fail
  refine (read_sp (some ⟨g, 0, none⟩) 8 c7 cL w14 q14 cc (by omega) wh_c).mono ?_
  rintro e w15 ⟨rfl, hB15⟩
  have b15 := b14.grow hB15
  have hB015 := hB014.trans (hB15.mono hB014.size)
  clear q14 b14 hB15
  go_wp2_with fail
  refine (n_exact a2 c2 w15 b15 bc).mono ?_
  rintro e w16 ⟨rfl, hB16⟩
  have hB016 := hB015.trans (hB16.mono hB015.size)
  clear b15 hB16
  go_wp2_with fail
  refine (alive_any w16).mono ?_
  rintro e w17 ⟨rfl, hB17⟩
  have hB017 := hB016.trans (hB17.mono hB016.size)
  have hsz := size_any none 0 0 w17
  rw [show ((sizeE 0 : Nat) : Int) = 0 from rfl] at hsz
  go_wp2_with fail
  refine hsz.mono ?_
  rintro e w18 ⟨rfl, rfl⟩
  go_wp2
  go_ret
  exact ⟨rfl, hB017⟩
end Go.Proofs.Ytmhgphbafiilnaa
