/- The contract of Write. -/
import Derived.Test.YtkhhejkemkldgaaDoorSBlock
import Derived.Test.YtkhhejkemkldgaaDoorSIter
import Derived.Test.YtkhhejkemkldgaaDoorSScope
import Derived.Laws.EntriesVeiled
set_option linter.unusedVariables false
namespace Go.Proofs.YtkhhejkemkldgaaDoor
open Go.RowKit Go.Shelf
attribute [local go_sem] Oper.semAt_some
/-- The Sha in block Z.S has taken the bytes xs. -/
def ShaAtL (W : World) (Z : Loc) (xs : List Int) : Prop := Bytes xs ∧ ShaInL W Z (adds xs (xs.length / 64)) (fun j => xs.getD (64 * (xs.length / 64) + j) 0) xs.length
theorem slice_held (S p h : Nat) (hh : h < 64) (w : World) : (Instr.sliceAt 29 (.pointer (some ⟨S, p, none⟩)) none (some (.int .u64 (h : Int))) none).run Tryd.prog w = .ok (.slice (some ⟨S, p, none⟩) h 64) w := by
  have e := run_sliceAt_array_h (P := Tryd.prog) w 29 ⟨S, p, none⟩ (by kernel_rfl) .u64 (h : Int) (by omega) (by rw [show Tryd.prog.arrayLen 29 = 64 by kernel_rfl]; omega)
  rw [e, show Tryd.prog.elem 29 = 5 by kernel_rfl, sizeOf_u8, show Tryd.prog.arrayLen 29 = 64 by kernel_rfl]
  simp only [Result.andThen, slicedAt, Int.toNat_natCast]
  rw [if_neg (by omega), Nat.zero_mul, Addr.add_mid]; rfl
theorem ShaInL.drew {W : World} {Z : Loc} {A : List Nat} {f : Nat → Int} {n : Int} (h : ShaInL W Z A f n) : ShaInL W.drew Z A f n := h
/-- What stands at every round's head. -/
def WI (w : World) (Z : Loc) (A : List Nat) (f : Nat → Int) (n : Int) (W : World) : Prop := ShaInL W Z A f n ∧ Tabs W ∧ w.grownBy W (some Z.S) ∧ Boxed W w.heap.size 24 (.pointer (some ⟨Z.S, Z.o, none⟩))
theorem WI.below {w : World} {Z : Loc} {A : List Nat} {f : Nat → Int} {n : Int} {X Y : World} {B : Nat} (h : WI w Z A f n X) (hb : Below B X Y) (hB : w.heap.size < B) (hS : Z.S < B) (hB1 : 1 < B) : WI w Z A f n Y :=
  ⟨At.below h.1 hS hb, h.2.1.below hB1 hb, ⟨hb.os.trans h.2.2.1.os, hb.tape.trans h.2.2.1.tape, hb.output.trans h.2.2.1.output, Nat.le_trans h.2.2.1.size hb.size, fun k hk hn => (hb.block k (by omega)).trans (h.2.2.1.block k hk hn)⟩, (hb.block _ hB).trans h.2.2.2⟩
def fr (Z : Loc) (H B1 hl yl cb : Nat) (Ab : Option Addr) (N : Int) (b' : Nat) (L : List Int) (fl : Nat) : Act :=
  { tmps := #[.pointer (some ⟨Z.S, Z.o, none⟩), .slice Ab yl cb, .pointer (some ⟨H, 0, none⟩), undef, .slice (some ⟨Z.S, Z.o + 8, none⟩) hl 64, .pointer (some ⟨b', 0, none⟩), .int .i64 fl, .pointer (some ⟨Z.S, Z.o, none⟩), .bool false, .pointer (some ⟨Z.S, Z.o, none⟩), .pointer (some ⟨Z.S, Z.o, none⟩), .pointer (some ⟨Z.S, Z.o + 8, none⟩), .pointer (some ⟨Z.S, Z.o, none⟩), .pointer (some ⟨Z.S, Z.o, none⟩), .pointer (some ⟨Z.S, Z.o + 72, none⟩), .int .u64 N, .int .u64 hl, .slice (some ⟨Z.S, Z.o + 8, none⟩) hl 64, .pointer (some ⟨Z.S, Z.o, none⟩), .pointer (some ⟨Z.S, Z.o, none⟩), .pointer (some ⟨Z.S, Z.o + 72, none⟩), .int .u64 N, .slice Ab yl cb, .int .i64 yl, .int .u64 yl, .int .u64 (N + yl), .pointer (some ⟨Z.S, Z.o, none⟩), .pointer (some ⟨Z.S, Z.o + 72, none⟩), .slice (some ⟨Z.S, Z.o + 8, none⟩) hl 64, .slice Ab yl cb, .func (.func 42) #[] #[.pointer (some ⟨B1, 0, none⟩), .pointer (some ⟨B1 + 1, 0, none⟩)], .agg (nums .u8 64 (bf L)), .int .i64 fl, undef, undef, undef, undef, undef, undef, undef, undef, undef, undef, undef, undef, undef, undef, undef, undef, undef, undef, undef], defers := [] }
theorem fresh_row (W : World) (T : TypeId) (cs cs' : Array Value) : W.grownBy ((W.alloc (.cells cs T)).setRow W.heap.size cs') none :=
  ⟨rfl, rfl, rfl, by simp, fun k hk _ => (setRow_other _ _ _ _ (Nat.ne_of_lt hk)).trans (Below.heap_alloc _ _ k hk)⟩
theorem below_grown {W X : World} {B : Nat} (h : W.grownBy X none) (hB : B ≤ W.heap.size) : Below B W X := ⟨h.os, h.tape, h.output, h.size, fun k hk => h.block k (by omega) (fun e => by cases e)⟩
theorem ShaInL.like {W : World} {Z : Loc} {A : List Nat} {f g : Nat → Int} {n : Int} (h : ShaInL W Z A f n) (e : ∀ j, j < 64 → f j = g j) : ShaInL W Z A g n := by
  unfold ShaInL Loc.cells shaC at *
  rw [nums_congr e] at h; exact h
theorem store_rest_in {F : Fence} {n : Nat} {w : World} {ops : Array Oper} {rest : List Oper} {o : Oper} {a : Act} {Q : Exit → Act → World → Prop} {x y : Operand} {Z : Loc} {A : List Nat} {f f' : Nat → Int} {nn : Int} (hF : ∀ f, F.fn f) (hS : ShaInL w Z A f nn)
    (hgd : o.guard = none) (ho : o.op = .store 29 x y) (hx : a.eval x = .pointer (some ⟨Z.S, Z.o + 8, none⟩)) (hy : a.eval y = .agg (nums .u8 64 f'))
    (h : wpListIn F n Tryd.prog ops Q rest (a.put o.dst undef) (w.setCells Z.S (Z.o + 8) (nums .u8 64 f').toList)) : wpListIn F n Tryd.prog ops Q (o :: rest) a w := by
  refine wpListIn_skip (w' := w.setCells Z.S (Z.o + 8) (nums .u8 64 f').toList) hF hgd (by rw [ho]; intro c hc; cases hc) ?_ h
  unfold execOp
  have := run_storeVar_mid (P := Tryd.prog) w Z.S (Z.o + 8) 29 (nums .u8 64 f') (hS.there 8 _ (by rw [nums_size]; omega)) (size_block f') (nums_one .u8 64 f')
  simp only [ho, hx, hy, Instr.storeAt, Instr.sureAddr, Sem.run_bind, Sem.run_pure, Result.andThen_ok, this]
theorem adds_eq (xs : List Int) (n : Nat) : plus (adds xs n) (comp (plus initial (adds xs n)) (blk xs n)) = adds xs (n + 1) := rfl
theorem blk_drop (L : List Int) (q k : Nat) : blk (L.drop (64 * q)) k = blk L (q + k) := by
  apply List.map_congr_left
  intro j _
  rw [List.getD, List.getElem?_drop, List.getD, show 64 * q + (64 * k + j) = 64 * (q + k) + j by omega]
set_option maxRecDepth 100000 in
set_option maxHeartbeats 2000000 in
theorem writeL_any (Z : Loc) (xs ys : List Int) (Ab : Option Addr) (cb : Nat) (hS2 : 2 ≤ Z.S) (hreach : xs.length + ys.length ≤ 1000000000000) (hcb : ys.length ≤ cb) (w : World) (hT : Tabs w) (hX : ShaAtL w Z xs)
    (hb8 : ∀ X, KeepsC Z.S w X → Bys8 w.heap.size X (.slice Ab ys.length cb) ys) (hY : Bytes ys) :
    Calls Tryd.prog 9 #[.pointer (some ⟨Z.S, Z.o, none⟩), .slice Ab ys.length cb] w fun e w' => e = .returned (.tuple #[]) ∧ ShaAtL w' Z (xs ++ ys) ∧ w.grownBy w' (some Z.S) := by
  have hmx : Tryd.prog.follows .mixedOrders = true := by kernel_rfl
  obtain ⟨hxb, hX⟩ := hX
  have hSlt : Z.S < w.heap.size := At.lt hX
  obtain ⟨q, hq⟩ : ∃ q, xs.length / 64 = q := ⟨_, rfl⟩
  obtain ⟨hs, hhs⟩ : ∃ hs, xs.drop (64 * q) = hs := ⟨_, rfl⟩
  obtain ⟨N, hN⟩ : ∃ N : Int, (xs.length : Int) = N := ⟨_, rfl⟩
  obtain ⟨f0, hf0⟩ : ∃ f0 : Nat → Int, (fun j => xs.getD (64 * q + j) 0) = f0 := ⟨_, rfl⟩
  have hhl : hs.length = xs.length - 64 * q := by rw [← hhs, List.length_drop]
  have hh64 : hs.length < 64 := by omega
  rw [hq, hN, hf0] at hX
  have hN0 : 0 ≤ N := by omega
  have hN1 : N + ys.length ≤ 1000000000000 := by omega
  have hrem : N.tmod 64 = (hs.length : Int) := by rw [Int.tmod_eq_emod_of_nonneg hN0]; omega
  have hsl := slice_held Z.S (Z.o + 8) hs.length hh64
  have hyl : ys.length ≤ 1000000000000 := by omega
  have HX := Lib.hid hX
  have B8 := Lib.hid hb8
  have HT := Lib.hid hT
  have HXB := Lib.hid hxb
  have HQ := Lib.hid hq
  have HHS := Lib.hid hhs
  have HN := Lib.hid hN
  have HF0 := Lib.hid hf0
  have HHL := Lib.hid hhl
  have c72 := (show ShaInL (w.alloc (.cells #[.pointer (some ⟨Z.S, Z.o, none⟩)] 24)).drew Z _ _ _ from At.drew (At.alloc hX _)).cell72
  have f72 := At.free (show ShaInL (w.alloc (.cells #[.pointer (some ⟨Z.S, Z.o, none⟩)] 24)).drew Z _ _ _ from At.drew (At.alloc hX _)) (Z.o + 72)
  clear hX hb8 hT hxb hq hhs hN hf0 hhl hreach
  refine (callsIn_wide (n := 4)).1 ?_
  refine callsIn_of_wp_marks Tryd.func9 rfl trivial ?_ rfl
  simp only [Tryd.ntmps9, List.size_toArray, List.length_cons, List.length_nil, Nat.reduceAdd, Nat.reduceSub, Array.replicate_succ, Array.replicate_zero, List.push_toArray, List.append_toArray, List.nil_append, List.cons_append]
  gi_wp2
  refine wpIn_scope_straight ?_
  gi_upto_region 2 with (fail)
  refine regionIn_tail (wide_plain _ _) 9 hmx (by kernel_rfl) rfl ?_
  simp only [List.take_succ_cons, List.take_zero, List.drop_succ_cons, List.drop_zero]
  repeat still_step
  refine wpStill_nil ?_
  gi_wp2
  have hX3 : ShaInL ((w.setCell ⟨Z.S, Z.o + 72, none⟩ (.int .u64 (N + ys.length))).alloc (.cells #[.pointer (some ⟨Z.S, Z.o, none⟩)] 24)).drew Z (adds xs q) f0 (N + ys.length) := At.drew (At.alloc (HX.out.len _) _)
  have hG3 : w.grownBy ((w.setCell ⟨Z.S, Z.o + 72, none⟩ (.int .u64 (N + ys.length))).alloc (.cells #[.pointer (some ⟨Z.S, Z.o, none⟩)] 24)).drew (some Z.S) :=
    grown_trans (grown_setCell w Z.S (Z.o + 72) _) ⟨rfl, rfl, rfl, by simp, fun k hk _ => (Below.heap_alloc _ _ k hk)⟩
  have hB3 : Boxed ((w.setCell ⟨Z.S, Z.o + 72, none⟩ (.int .u64 (N + ys.length))).alloc (.cells #[.pointer (some ⟨Z.S, Z.o, none⟩)] 24)).drew w.heap.size 24 (.pointer (some ⟨Z.S, Z.o, none⟩)) := by
    have := Boxed.new (w.setCell ⟨Z.S, Z.o + 72, none⟩ (.int .u64 (N + ys.length))) 24 (.pointer (some ⟨Z.S, Z.o, none⟩))
    rw [World.size_setCell] at this; exact this
  have hZ3 : ((w.setCell ⟨Z.S, Z.o + 72, none⟩ (.int .u64 (N + ys.length))).alloc (.cells #[.pointer (some ⟨Z.S, Z.o, none⟩)] 24)).drew.heap.size = w.heap.size + 1 := by simp
  generalize ((w.setCell ⟨Z.S, Z.o + 72, none⟩ (.int .u64 (N + ys.length))).alloc (.cells #[.pointer (some ⟨Z.S, Z.o, none⟩)] 24)).drew = w3 at *
  have HX3 := Lib.hid hX3
  have HG3 := Lib.hid hG3
  have HB3 := Lib.hid hB3
  have HZ3 := Lib.hid hZ3
  clear hX3 hG3 hB3 hZ3 hsl hrem HX
  refine wpIn_label ?_
  gi_wp2_with (refine ⟨trivial, ?_⟩; gi_at_call 26; refine (blocksOf_in _ _ _ _ _ _ _ _).mono ?_; rintro e w' ⟨rfl, rfl⟩)
  have hX4 : ShaInL ((w3.alloc (.cells #[.slice (some ⟨Z.S, Z.o + 8, none⟩) hs.length 64] 33)).alloc (.cells #[.slice Ab ys.length cb] 33)) Z (adds xs q) f0 (N + ys.length) := At.alloc (At.alloc HX3.out _) _
  have hB4 := ((HB3.out).alloc (.cells #[.slice (some ⟨Z.S, Z.o + 8, none⟩) hs.length 64] 33)).alloc (.cells #[.slice Ab ys.length cb] 33)
  have hb1 := (Boxed.new w3 33 (.slice (some ⟨Z.S, Z.o + 8, none⟩) hs.length 64)).alloc (.cells #[.slice Ab ys.length cb] 33)
  have hb2 := Boxed.new (w3.alloc (.cells #[.slice (some ⟨Z.S, Z.o + 8, none⟩) hs.length 64] 33)) 33 (.slice Ab ys.length cb)
  rw [World.size_alloc] at hb2
  have hG4 : w.grownBy ((w3.alloc (.cells #[.slice (some ⟨Z.S, Z.o + 8, none⟩) hs.length 64] 33)).alloc (.cells #[.slice Ab ys.length cb] 33)) (some Z.S) :=
    grown_trans HG3.out ⟨rfl, rfl, rfl, by simp; omega, fun k hk _ => (Below.heap_alloc _ _ k (by simp; omega)).trans (Below.heap_alloc _ _ k hk)⟩
  have hZ4 : ((w3.alloc (.cells #[.slice (some ⟨Z.S, Z.o + 8, none⟩) hs.length 64] 33)).alloc (.cells #[.slice Ab ys.length cb] 33)).heap.size = w3.heap.size + 2 := by simp
  generalize ((w3.alloc (.cells #[.slice (some ⟨Z.S, Z.o + 8, none⟩) hs.length 64] 33)).alloc (.cells #[.slice Ab ys.length cb] 33)) = w4 at *
  have hZ3 := HZ3.out
  have hT4 : Tabs w4 := ⟨HT.out.1.of (hG4.block 0 (by omega) (fun e => by injection e; omega)), HT.out.2.of (hG4.block 1 (by omega) (fun e => by injection e; omega))⟩
  have hK4 : KeepsC Z.S w w4 := KeepsC.grown hG4
  have hall : hs ++ ys = (xs ++ ys).drop (64 * q) := by
    rw [← HHS.out, List.drop_append_of_le_length]; have := HQ.out; omega
  have hadd : adds (xs ++ ys) (q + 0) = adds xs q := adds_app _ _ _ (by have := HQ.out; omega)
  have hh8 : Bys8 w4.heap.size w4 (.slice (some ⟨Z.S, Z.o + 8, none⟩) hs.length 64) hs := by
    refine ⟨fun x hx => HXB.out x (by rw [← HHS.out] at hx; exact List.mem_of_mem_drop hx), .inr ⟨Z.S, Z.o + 8, 64, rfl, by omega, fun j hj => ?_⟩⟩
    rw [hX4.cellR j (by omega), ← HF0.out, ← HHS.out]
    simp [List.getD]
  have hseq := blocks_goes 3 (by omega) Z.S w3.heap.size (w3.heap.size + 1) (some ⟨Z.S, Z.o + 8, none⟩) 64 hs ys Ab cb hh64 hcb hyl w4 (by omega) (by omega) (by omega) hb1 hb2 hh8 (fun X hX => (B8.out X (hK4.trans hX)).mono (by omega))
  have hI0 : WI w Z (adds (xs ++ ys) (q + 0)) f0 (N + ys.length) w4 := by rw [hadd]; exact ⟨hX4, hT4, hG4, hB4⟩
  have hz3 : w.heap.size + 1 ≤ w3.heap.size := by omega
  have hz4 : w3.heap.size + 2 ≤ w4.heap.size := by omega
  have HALL := Lib.hid hall
  clear hZ3 hZ4 hall hadd hh8 hX4 hT4 hG4 hB4 hb1 hb2 c72 f72 hK4
  refine wpIn_rangeFunc_goes (n := 4) rfl (enters_of Tryd.func42 (by kernel_rfl) rfl) ((hs ++ ys).length / 64) Z.S 0 (elemOf (hs ++ ys)) hseq (fun _ => rfl)
    (fun k W => WI w Z (adds (xs ++ ys) (q + k)) f0 (N + ys.length) W) (fun W => WI w Z (adds (xs ++ ys) (q + (hs ++ ys).length / 64)) (bf (blk (hs ++ ys) ((hs ++ ys).length / 64))) (N + ys.length) W)
    (fun k X Y h hb => h.below hb (by omega) (by omega) (by omega)) (fun X Y h hb => h.below hb (by omega) (by omega) (by omega)) hI0
    (fun k a₁ W => ∃ b', a₁ = fr Z w.heap.size w3.heap.size hs.length ys.length cb Ab N b' (blk (hs ++ ys) k) (fill (hs ++ ys) k) ∧ At 29 W b' (nums .u8 64 (bf (blk (hs ++ ys) k))) ∧ w.heap.size < b')
    (fun k a₁ W l o o' ⟨b', e, hA, hlt⟩ hl ho => ⟨b', e, (World.putObj_heap_other (fun e => by subst e; rw [show W.heap[b']? = _ from hA] at hl; cases hl; cases ho)).trans hA, hlt⟩) ?assign ?go ?end_ ?stop
  case assign =>
    intro l k W K hW hk hI hK
    clear hseq hI0
    unfold elemOf
    have HK := Lib.hid hK
    have HI := Lib.hid hI
    clear hK hI
    have hz := (zero_of_info zero_block).1
    have HA := Lib.hid (At.new 29 W (nums .u8 64 fun _ => 0))
    gi_wp2_with (refine store_block_in (fun _ => trivial) HA.out rfl rfl rfl rfl ?_)
    have hg := fresh_row W 29 (nums .u8 64 fun _ => 0) (nums .u8 64 (bf (blk (hs ++ ys) k)))
    refine HK.out _ _ (KeepsFrom.of_grownBy hg (fun j e => by cases e)) (KeepsC.grownNone hg) (HI.out.below (below_grown hg (Nat.le_refl _)) (by omega) (by omega) (by omega)) ⟨W.heap.size, rfl, HA.out.row, by omega⟩
  case go =>
    rintro l k a₁ W hW hk hI ⟨b', rfl, hA, hb'⟩
    clear hseq hI0
    have hf : fill (hs ++ ys) k = 64 := by unfold fill; omega
    rw [hf]
    unfold fr
    have hbk : blk (hs ++ ys) k = blk (xs ++ ys) (q + k) := by rw [HALL.out, blk_drop]
    rw [hbk]
    rw [hbk] at hA
    have HI := Lib.hid hI
    have HA := Lib.hid hA
    clear hI hA hbk hf
    gi_upto_region 9 with (fail)
    have hbw : b' < W.heap.size := HA.out.lt
    have bb : Bytes (blk (xs ++ ys) (q + k)) := blk_bytes (fun x hx => by
      rcases List.mem_append.1 hx with h | h
      · exact HXB.out x h
      · exact hY x h) _
    refine region_block rfl rfl (by kernel_rfl) rfl _ _ _ _ _ _ _ _ _ _ _ _ _ _ rfl rfl rfl rfl rfl rfl rfl rfl rfl rfl rfl rfl rfl rfl rfl rfl rfl rfl rfl rfl rfl rfl rfl rfl rfl rfl rfl rfl rfl rfl rfl rfl rfl rfl rfl rfl rfl rfl rfl rfl rfl rfl rfl rfl rfl rfl rfl rfl rfl rfl rfl rfl rfl rfl rfl rfl (by kernel_rfl) (by kernel_rfl) (by kernel_rfl) (by kernel_rfl) (by kernel_rfl) (by kernel_rfl) (by kernel_rfl) (by kernel_rfl) (by kernel_rfl) (by kernel_rfl) (by kernel_rfl) (by kernel_rfl) (by kernel_rfl) (by kernel_rfl) (by kernel_rfl) (by kernel_rfl) (by kernel_rfl) (by kernel_rfl) (by kernel_rfl) (by kernel_rfl) (by kernel_rfl) (by kernel_rfl) (by kernel_rfl) (by kernel_rfl) _ rfl Z w.heap.size b' (adds (xs ++ ys) (q + k)) f0 (N + ys.length) (blk (xs ++ ys) (q + k)) (adds_words _ _) bb rfl rfl W HI.out.2.1 HI.out.1 ⟨HI.out.2.2.2, HA.out⟩ (by omega) (by omega) ?_
    rw [adds_eq]
    intro X a' hX
    have hg := grown_setCells Z.S (nums .u32 8 (wf (adds (xs ++ ys) (q + k + 1)))).toList Z.o X
    have hg2 : W.grownBy (X.setCells Z.S Z.o (nums .u32 8 (wf (adds (xs ++ ys) (q + k + 1)))).toList) (some Z.S) := grown_trans ⟨hX.os, hX.tape, hX.output, hX.size, fun j hj _ => hX.block j hj⟩ hg
    exact ⟨KeepsFrom.of_grownBy hg2 (fun j e => by injection e; omega), KeepsC.grown hg2, ShaInL.added (At.below HI.out.1 (by omega) hX), ⟨HI.out.2.1.1.of (hg2.block 0 (by omega) (fun e => by injection e; omega)), HI.out.2.1.2.of (hg2.block 1 (by omega) (fun e => by injection e; omega))⟩, grown_trans HI.out.2.2.1 hg2, (hg2.block _ (by omega) (fun e => by injection e; omega)).trans HI.out.2.2.2⟩
  case end_ =>
    rintro l a₁ W hW hI ⟨b', rfl, hA, hb'⟩
    clear hseq hI0
    have hf : fill (hs ++ ys) ((hs ++ ys).length / 64) < 64 := by unfold fill; omega
    generalize fill (hs ++ ys) ((hs ++ ys).length / 64) = fl at *
    unfold fr
    have hbx := hI.2.2.2.cell
    have HI := Lib.hid hI
    have HA := Lib.hid hA
    clear hI hA
    gi_wp2_with (first | (refine load_block_in (fun _ => trivial) HA.out rfl rfl rfl ?_) | (refine store_rest_in (fun _ => trivial) HI.out.1 rfl rfl rfl rfl ?_))
    rw [← List.length_append]
    have hg2 := grown_setCells Z.S (nums .u8 64 (bf (blk (hs ++ ys) ((hs ++ ys).length / 64)))).toList (Z.o + 8) W
    exact ⟨rfl, KeepsFrom.of_grownBy hg2 (fun j e => by injection e; omega), ShaInL.rest HI.out.1, ⟨HI.out.2.1.1.of (hg2.block 0 (by omega) (fun e => by injection e; omega)), HI.out.2.1.2.of (hg2.block 1 (by omega) (fun e => by injection e; omega))⟩, grown_trans HI.out.2.2.1 hg2, (hg2.block _ (by omega) (fun e => by injection e; omega)).trans HI.out.2.2.2⟩
  case stop =>
    intro D W hD hI hK
    have HI := Lib.hid hI
    have HK := Lib.hid hK
    clear hI hK hseq hI0
    gi_wp2
    have hfin : ∀ X, Below w4.heap.size W X → ShaAtL X Z (xs ++ ys) ∧ w.grownBy X (some Z.S) := fun X hX => by
      have hI := HI.out.below hX (by omega) (by omega) (by omega)
      have hq := HQ.out
      have hl := HHL.out
      have hN := HN.out
      have em : q + (hs ++ ys).length / 64 = (xs ++ ys).length / 64 := by rw [List.length_append, List.length_append]; omega
      refine ⟨⟨fun x hx => ?_, ?_⟩, hI.2.2.1⟩
      · rcases List.mem_append.1 hx with h | h
        · exact HXB.out x h
        · exact hY x h
      · have h1 := hI.1
        rw [em] at h1
        have e2 : ((xs ++ ys).length : Int) = N + ys.length := by rw [List.length_append]; omega
        rw [e2]
        refine ShaInL.like h1 fun j hj => ?_
        rw [HALL.out, blk_drop, blk_get _ _ _ hj, ← HALL.out, em]
    rw [Exit.noGoto_normal]
    refine ⟨by simp, .inl ⟨_, _, rfl, run_takeDeferred HK.out, ?_⟩⟩
    exact ⟨_, results_none rfl _ _ _, rfl, hfin _ ⟨rfl, rfl, rfl, by simp, fun j hj => World.putObj_heap_other (by omega)⟩⟩
/-- The Sha that fills block S has taken the bytes xs. -/
def ShaAt (W : World) (S : Nat) (xs : List Int) : Prop := Bytes xs ∧ ShaIn W S (adds xs (xs.length / 64)) (fun j => xs.getD (64 * (xs.length / 64) + j) 0) xs.length
theorem shaAt_plain {W : World} {S : Nat} {xs : List Int} : ShaAtL W (Loc.sha S) xs ↔ ShaAt W S xs := and_congr_right fun _ => shaIn_plain
theorem write_any (S : Nat) (xs ys : List Int) (Ab : Option Addr) (cb : Nat) (hS2 : 2 ≤ S) (hreach : xs.length + ys.length ≤ 1000000000000) (hcb : ys.length ≤ cb) (w : World) (hT : Tabs w) (hX : ShaAt w S xs)
    (hb8 : ∀ X, KeepsC S w X → Bys8 w.heap.size X (.slice Ab ys.length cb) ys) (hY : Bytes ys) :
    Calls Tryd.prog 9 #[.pointer (some ⟨S, 0, none⟩), .slice Ab ys.length cb] w fun e w' => e = .returned (.tuple #[]) ∧ ShaAt w' S (xs ++ ys) ∧ w.grownBy w' (some S) :=
  (writeL_any (Loc.sha S) xs ys Ab cb hS2 hreach hcb w hT (shaAt_plain.2 hX) hb8 hY).mono fun _ _ h => ⟨h.1, shaAt_plain.1 h.2.1, h.2.2⟩
end Go.Proofs.YtkhhejkemkldgaaDoor
