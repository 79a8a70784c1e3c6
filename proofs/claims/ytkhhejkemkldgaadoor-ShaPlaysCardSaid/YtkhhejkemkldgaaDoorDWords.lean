/- The document's words: those of a block, the 64 of its rounds. -/
import Derived.Test.YtkhhejkemkldgaaDoorDRight
import Derived.Test.YtkhhejkemkldgaaDoorSExp
import Derived.Test.YtkhhejkemkldgaaDoorS8
import Derived.Deep.RegionHeld3
set_option linter.unusedVariables false
set_option linter.unusedSimpArgs false
namespace Go.Proofs.YtkhhejkemkldgaaDoor
open Go.RowKit Go.Shelf
theorem size_words (f : Nat → Int) : (Tryd.prog.info? 63).map (·.size) = some (nums .u32 64 f).size := by rw [nums_size]; kernel_rfl
theorem zero_words : (Tryd.prog.info? 63).map (fun i => (i.zero, i.size)) = some (some (.agg (nums .u32 64 fun _ => 0)), 64) := by kernel_rfl
theorem load_words {ops : Array Oper} {rest : List Oper} {o : Oper} {a : Act} {w : World} {Q : Exit → Act → World → Prop} {x : Operand} {g : Nat} {f : Nat → Int} (hg : At 63 w g (nums .u32 64 f))
    (hgd : o.guard = none) (ho : o.op = .load 63 x) (hx : a.eval x = .pointer (some ⟨g, 0, none⟩))
    (h : wpList Tryd.prog ops Q rest (a.put o.dst (.agg (nums .u32 64 f))) w) : wpList Tryd.prog ops Q (o :: rest) a w :=
  wpList_load_row hgd 63 x ho g hx _ _ _ _ hg Tryd.underlying63 rfl (size_words f) h
theorem store_words {ops : Array Oper} {rest : List Oper} {o : Oper} {a : Act} {w : World} {Q : Exit → Act → World → Prop} {x y : Operand} {g : Nat} {f f' : Nat → Int} (hg : At 63 w g (nums .u32 64 f'))
    (hgd : o.guard = none) (ho : o.op = .store 63 x y) (hx : a.eval x = .pointer (some ⟨g, 0, none⟩)) (hy : a.eval y = .agg (nums .u32 64 f))
    (h : wpList Tryd.prog ops Q rest (a.put o.dst undef) (w.setRow g (nums .u32 64 f))) : wpList Tryd.prog ops Q (o :: rest) a w :=
  wpList_store_row hgd 63 x y ho g (nums .u32 64 f) hx hy _ _ hg (size_words f) (by rw [nums_size, nums_size]) (nums_one .u32 64 f) h
theorem results_words {fn : Func} {p : Tmp} (h : fn.results = #[.cell p 63]) (tmps : Array Value) (w : World) (g : Nat) (f : Nat → Int) (hp : tmps.getD p undef = .pointer (some ⟨g, 0, none⟩)) (hg : At 63 w g (nums .u32 64 f)) :
    (results fn tmps).run Tryd.prog w = .ok (.agg (nums .u32 64 f)) w := results_cell_row h tmps w g _ _ _ _ hp hg Tryd.underlying63 rfl (size_words f)
theorem ew_add {b : List Int} (hb : Bytes b) (i : Nat) (h : i < 64) : (ew b i (i / 4)) * 256 + bf b i = ((part b (i / 4) (i % 4 + 1) : Nat) : Int) := by
  have h0 := hb.get i
  rw [ew_at b i h]
  change _ + b.getD i 0 = _
  rw [part, show 4 * (i / 4) + i % 4 = i by omega]
  omega
set_option maxRecDepth 100000 in
set_option maxHeartbeats 1000000 in
theorem dwords_any (xs : List Int) (hx : Bytes xs) (hl : xs.length = 64) (A : Option Addr) (cb : Nat) (w : World) (hb : Bys8 w.heap.size w (.slice A 64 cb) xs) :
    Calls Tryd.prog 36 #[.slice A 64 cb] w fun e w' => e = .returned (.agg (nums .u32 64 (wf (words xs)))) ∧ Below w.heap.size w w' := by
  have hz := (zero_of_info zero_words).1
  obtain ⟨_, ⟨rfl, _⟩ | ⟨g, off, cap, e, hg, hc⟩⟩ := hb
  · simp at hl
  rw [hl] at e
  cases e
  rw [hl] at hc
  have HX := Lib.hid hx
  have HC := Lib.hid hc
  clear hx hl hc
  go_enter Tryd.func36, Tryd.ntmps36
  go_wp2
  go_loopw [4] (fun i wr => ∃ q : Nat, q ≤ 16 ∧ i = .int .i64 q ∧ At 63 wr w.heap.size (nums .u32 64 fun _ => 0) ∧ At 63 wr (w.heap.size + 1) (nums .u32 64 (ew xs (4 * q))) ∧ Below w.heap.size w wr) (fun i _ => 16 - (intOf i).toNat)
  case atStart =>
    have b2 := (At.new 63 w (nums .u32 64 fun _ => 0)).alloc (.cells (nums .u32 64 fun _ => 0) 63)
    have b3 := At.new 63 (w.alloc (.cells (nums .u32 64 fun _ => 0) 63)) (nums .u32 64 fun _ => 0)
    simp only [World.size_alloc] at b3
    exact ⟨0, by omega, rfl, b2, by rw [← ew_zero]; exact b3, ((Below.refl _ w).alloc (Nat.le_refl _) _).alloc (by simp) _⟩
  case round =>
    obtain ⟨q, hq, rfl, h2, h3, hB⟩ := hrel
    by_cases hlt : q < 16
    · have H2 := Lib.hid h2
      have H3 := Lib.hid h3
      have HB := Lib.hid hB
      clear h2 h3 hB
      go_wp2
      rw [show decide ((q : Int) < 16) = true from by simp; omega]
      obtain ⟨wo, hwo⟩ : ∃ wo : World, wo = wr := ⟨_, rfl⟩
      rw [← hwo] at H2 H3 HB
      rw [← hwo]
      clear hwo
      go_loopw [5] (fun i wr => ∃ k : Nat, k ≤ 4 ∧ i = .int .i64 k ∧ At 63 wr w.heap.size (nums .u32 64 fun _ => 0) ∧ At 63 wr (w.heap.size + 1) (nums .u32 64 (ew xs (4 * q + k))) ∧ Below w.heap.size w wr) (fun i _ => 4 - (intOf i).toNat)
      case atStart => exact ⟨0, by omega, rfl, H2.out, H3.out, HB.out⟩
      case round =>
        clear H2 H3 HB
        obtain ⟨k, hk, rfl, h2, h3, hB⟩ := hrel
        by_cases hk4 : k < 4
        · have hm : (4 * q + k) / 4 = q := by omega
          have c3 := h3.num q (by omega)
          have f3 := h3.free q
          have cx := (hB.cell (p := ⟨g, off + (4 * q + k), none⟩) hg).trans (HC.out (4 * q + k) (by omega))
          have ha := ew_add HX.out (4 * q + k) (by omega)
          have hs := ew_set xs (4 * q + k) (by omega)
          have hlt3 := part_lt HX.out q k (by omega)
          have hat := ew_at xs (4 * q + k) (by omega)
          rw [hm] at ha hs hat
          rw [show (4 * q + k) % 4 = k by omega] at ha hs hat
          have hy := HX.out.get (4 * q + k)
          have HS := Lib.hid hs
          rw [hat] at c3
          generalize hX : ((part xs q k : Nat) : Int) = x at c3
          have x0 : 0 ≤ x := by omega
          have x1 : x < 16777216 := by omega
          rw [hat, hX] at ha
          change _ + xs.getD (4 * q + k) 0 = _ at ha
          generalize xs.getD (4 * q + k) 0 = y at *
          obtain ⟨y0, y1⟩ := hy
          have HA := Lib.hid ha
          have H2 := Lib.hid h2
          have H3 := Lib.hid h3
          clear h2 h3 hs hm ha hat hX hlt3
          have M := Lib.hid (And.intro hlt hk4)
          have s0 : IntKind.i64.wrap (4 * (q : Int)) = 4 * (q : Int) := by rw [IntKind.wrap_i64]; omega
          have i0 : (q : Int) < 64 := by omega
          obtain ⟨m, rm, sm, im⟩ : ∃ m : Nat, 4 * q + k = m ∧ IntKind.i64.wrap (4 * (q : Int) + (k : Int)) = (m : Int) ∧ (m : Int) < 64 := ⟨4 * q + k, rfl, by rw [IntKind.wrap_i64]; omega, by omega⟩
          rw [rm] at cx
          have RM := Lib.hid rm
          clear rm
          go_wp2
          refine wp_region_still_tail 15 (by kernel_rfl) (by kernel_rfl) ?_
          simp only [List.take_succ_cons, List.take_zero, List.drop_succ_cons, List.drop_zero]
          repeat still_step
          refine wpStill_nil ?_
          change wpList _ _ _ _ _ wr.drew
          have c3' : wr.drew.cell? ⟨w.heap.size + 1, q, none⟩ = some (.int .u32 x) := c3
          have f3' : wr.drew.frozen? ⟨w.heap.size + 1, q, none⟩ = false := f3
          have HD := Lib.hid (show At 63 wr.drew w.heap.size _ from H2.out)
          have HE := Lib.hid (show At 63 wr.drew (w.heap.size + 1) _ from H3.out)
          have HF := Lib.hid (show Below w.heap.size w wr.drew from below_drewN hB 1)
          clear c3 f3 H2 H3 hB cx
          generalize wr.drew = w2 at *
          clear s0 sm
          go_wp2
          go_roundw
          case rel =>
            have := HE.out.put q ((part xs q (k + 1) : Nat) : Int) (by omega)
            rw [HS.out] at this
            refine ⟨k + 1, by omega, by go_num, HD.out.other _ (by simp), ?_, HF.out.setCell (p := ⟨w.heap.size + 1, q, none⟩) (by simp) _⟩
            rw [HA.out]; exact this
          case measure => simp [intOf]; have := M.out; omega
        · obtain rfl : k = 4 := by omega
          have H2 := Lib.hid h2
          have H3 := Lib.hid h3
          have HB := Lib.hid hB
          clear h2 h3 hB
          go_wp2
          go_roundw
          case rel => exact ⟨q + 1, by omega, by go_num, H2.out, H3.out, HB.out⟩
          case measure => simp [intOf]; omega
    · rw [show ew xs (4 * q) = ew xs 64 by rw [show q = 16 by omega], sw_first] at h3
      have H2 := Lib.hid h2
      have H3 := Lib.hid h3
      have HBw := Lib.hid hB
      clear h2 h3 hB
      go_wp2
      obtain ⟨wo, hwo⟩ : ∃ wo : World, wo = wr := ⟨_, rfl⟩
      rw [← hwo] at H2 H3 HBw
      rw [← hwo]
      clear hwo
      go_loopw [6] (fun i wr => ∃ t : Nat, 16 ≤ t ∧ t ≤ 64 ∧ i = .int .i64 t ∧ At 63 wr w.heap.size (nums .u32 64 fun _ => 0) ∧ At 63 wr (w.heap.size + 1) (nums .u32 64 (sw xs t)) ∧ Below w.heap.size w wr) (fun i _ => 64 - (intOf i).toNat)
      case atStart => exact ⟨16, by omega, by omega, rfl, H2.out, H3.out, HBw.out⟩
      case round =>
        obtain ⟨t, ht1, ht2, rfl, h2, h3, hB⟩ := hrel
        by_cases hlt : t < 64
        · have c2 := h3.num (t - 2) (by omega)
          have c7 := h3.num (t - 7) (by omega)
          have c15 := h3.num (t - 15) (by omega)
          have c16 := h3.num (t - 16) (by omega)
          have f3 := h3.free t
          have c0 := h3.num t hlt
          have hw := words_words HX.out
          obtain ⟨X2, x20, x21, e2⟩ := cast_of (hw (t - 2))
          obtain ⟨X15, x150, x151, e15⟩ := cast_of (hw (t - 15))
          obtain ⟨X7, x70, x71, e7⟩ := cast_of (hw (t - 7))
          obtain ⟨X16, x160, x161, e16⟩ := cast_of (hw (t - 16))
          obtain ⟨Y1, y10, y11, g1⟩ := cast_of (low1_lt (hw (t - 2)))
          obtain ⟨Y0, y00, y01, g0⟩ := cast_of (low0_lt (hw (t - 15)))
          obtain ⟨P17, p17a, p17b, e17⟩ := cast_of (rotr_lt 17 _ (hw (t - 2)))
          obtain ⟨P19, p19a, p19b, e19⟩ := cast_of (rotr_lt 19 _ (hw (t - 2)))
          obtain ⟨P7, p7a, p7b, ep7⟩ := cast_of (rotr_lt 7 _ (hw (t - 15)))
          obtain ⟨P18, p18a, p18b, e18⟩ := cast_of (rotr_lt 18 _ (hw (t - 15)))
          have L1 := low1_says _ (hw (t - 2))
          have L0 := low0_says _ (hw (t - 15))
          have hd17 := fun w => dright_any _ 17 (hw (t - 2)) (by omega) (by omega) w
          have hd19 := fun w => dright_any _ 19 (hw (t - 2)) (by omega) (by omega) w
          have hd7 := fun w => dright_any _ 7 (hw (t - 15)) (by omega) (by omega) w
          have hd18 := fun w => dright_any _ 18 (hw (t - 15)) (by omega) (by omega) w
          rw [e2, e17, e19, g1] at L1
          rw [e15, ep7, e18, g0] at L0
          rw [e2, e17, show ((17 : Nat) : Int) = 17 from rfl] at hd17
          rw [e2, e19, show ((19 : Nat) : Int) = 19 from rfl] at hd19
          rw [e15, ep7, show ((7 : Nat) : Int) = 7 from rfl] at hd7
          rw [e15, e18, show ((18 : Nat) : Int) = 18 from rfl] at hd18
          have hn := wf_next xs t ht1 hlt
          rw [show sw xs t (t - 2) = X2 from (if_pos (by omega)).trans e2] at c2
          rw [show sw xs t (t - 7) = X7 from (if_pos (by omega)).trans e7] at c7
          rw [show sw xs t (t - 15) = X15 from (if_pos (by omega)).trans e15] at c15
          rw [show sw xs t (t - 16) = X16 from (if_pos (by omega)).trans e16] at c16
          rw [show wf (words xs) (t - 7) = X7 from e7, show wf (words xs) (t - 16) = X16 from e16, g1, g0] at hn
          have HN := Lib.hid hn
          have HS := Lib.hid (sw_set xs t)
          have H2 := Lib.hid h2
          have H3 := Lib.hid h3
          have HB := Lib.hid hB
          clear h2 h3 hw e2 e15 e7 e16 g1 g0 hn hB e17 e19 ep7 e18
          have T := Lib.hid (And.intro ht1 hlt)
          have ti : (t : Int) < 64 := by omega
          obtain ⟨t2, r2, s2, i2⟩ : ∃ t2, t - 2 = t2 ∧ IntKind.i64.wrap ((t : Int) - 2) = (t2 : Int) ∧ (t2 : Int) < 64 := ⟨t - 2, rfl, by rw [IntKind.wrap_i64]; omega, by omega⟩
          obtain ⟨t7, r7, s7, i7⟩ : ∃ t2, t - 7 = t2 ∧ IntKind.i64.wrap ((t : Int) - 7) = (t2 : Int) ∧ (t2 : Int) < 64 := ⟨t - 7, rfl, by rw [IntKind.wrap_i64]; omega, by omega⟩
          obtain ⟨t15, r15, s15, i15⟩ : ∃ t2, t - 15 = t2 ∧ IntKind.i64.wrap ((t : Int) - 15) = (t2 : Int) ∧ (t2 : Int) < 64 := ⟨t - 15, rfl, by rw [IntKind.wrap_i64]; omega, by omega⟩
          obtain ⟨t16, r16, s16, i16⟩ : ∃ t2, t - 16 = t2 ∧ IntKind.i64.wrap ((t : Int) - 16) = (t2 : Int) ∧ (t2 : Int) < 64 := ⟨t - 16, rfl, by rw [IntKind.wrap_i64]; omega, by omega⟩
          rw [r2] at c2
          rw [r7] at c7
          rw [r15] at c15
          rw [r16] at c16
          have n7 := Lib.hid (show (⟨w.heap.size + 1, t, none⟩ : Addr) ≠ ⟨w.heap.size + 1, t7, none⟩ from fun q => by injection q with _ q2 _; omega)
          have n16 := Lib.hid (show (⟨w.heap.size + 1, t, none⟩ : Addr) ≠ ⟨w.heap.size + 1, t16, none⟩ from fun q => by injection q with _ q2 _; omega)
          clear r2 r7 r15 r16
          go_wp2_with fail
          go_region_held3 (fun w' => w'.cell? ⟨w.heap.size + 1, t7, none⟩ = some (.int .u32 X7) ∧ w'.cell? ⟨w.heap.size + 1, t16, none⟩ = some (.int .u32 X16))
            (first
              | go_keep
              | exact ⟨(World.cell?_setCell_other _ _ _ _ n7.out).trans c7, (World.cell?_setCell_other _ _ _ _ n16.out).trans c16⟩)
            (first
              | (go_at_call 37; ((with_reducible refine (hd17 _).mono ?_); rintro e w' ⟨rfl, m17, rfl⟩))
              | (go_at_call 37; ((with_reducible refine (hd19 _).mono ?_); rintro e w' ⟨rfl, m19, rfl⟩))
              | (go_at_call 37; ((with_reducible refine (hd7 _).mono ?_); rintro e w' ⟨rfl, m7, rfl⟩))
              | (go_at_call 37; ((with_reducible refine (hd18 _).mono ?_); rintro e w' ⟨rfl, m18, rfl⟩)))
          have HD := Lib.hid (H2.out.drewN (1 + m17 + m19 + m7 + m18))
          have HE := Lib.hid (H3.out.drewN (1 + m17 + m19 + m7 + m18))
          have HF := Lib.hid (below_drewN HB.out (1 + m17 + m19 + m7 + m18))
          clear c2 c7 c15 c16 c0 f3 H2 H3 HB hd17 hd19 hd7 hd18 L0 L1
          generalize wr.drewN (1 + m17 + m19 + m7 + m18) = w2 at *
          clear s2 s7 s15 s16
          go_wp2
          go_roundw
          case rel =>
            have := HE.out.put t (wf (words xs) t) T.out.2
            rw [HS.out] at this
            have hT := T.out
            refine ⟨t + 1, by omega, by omega, by go_num, HD.out.other _ (by simp), ?_, HF.out.setCell (p := ⟨w.heap.size + 1, t, none⟩) (by simp) _⟩
            have hv : (((Y1 + X7) % 4294967296 + Y0) % 4294967296 + X16) % 4294967296 = wf (words xs) t := by
              rw [← HN.out]; omega
            rw [hv]; exact this
          case measure => simp [intOf]; have := T.out; omega
        · obtain rfl : t = 64 := by omega
          rw [sw_last] at h3
          have H2 := Lib.hid h2
          have H3 := Lib.hid h3
          clear h2 h3
          go_wp2_with (first | (refine load_words H3.out rfl rfl rfl ?_) | (refine store_words H2.out rfl rfl rfl rfl ?_))
          exact bodyPost_ret (v := .agg (nums .u32 64 (wf (words xs)))) (results_words rfl _ _ w.heap.size _ rfl H2.out.row) rfl ⟨rfl, below_row hB (by omega) _⟩
end Go.Proofs.YtkhhejkemkldgaaDoor
