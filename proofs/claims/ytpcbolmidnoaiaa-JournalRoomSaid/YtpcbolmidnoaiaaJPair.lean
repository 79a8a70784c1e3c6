/- pairOf. -/
import Derived.Test.YtpcbolmidnoaiaaJWord
import Derived.Test.YtpcbolmidnoaiaaDRead
import Derived.Laws.ResultCell
set_option linter.unusedVariables false
set_option linter.unusedSimpArgs false
namespace Go.Proofs.Ytpcbolmidnoaiaa
open Go.RowKit Go.Shelf
theorem jsec_size {L : List Int} (h : L.length = 128) : (Try.prog.info? 56).map (·.size) = some (vals8 L).length := by rw [vals8_len, h]; kernel_rfl
theorem jpair_size {L M : List Int} (h : L.length = 128) (h' : M.length = 128) : (Try.prog.info? 58).map (·.size) = some (vals8 L ++ vals8 M).length := by rw [List.length_append, vals8_len, vals8_len, h, h']; kernel_rfl
theorem jpair_zero : (Try.prog.info? 58).map (fun i => (i.zero, i.size)) = some (some (.agg (nums .u8 256 fun _ => 0)), 256) := by kernel_rfl
theorem jsec_zero : (Try.prog.info? 56).map (fun i => (i.zero, i.size)) = some (some (.agg (nums .u8 128 fun _ => 0)), 128) := by kernel_rfl
theorem pair_all (L M : List Int) : (vals8 L ++ vals8 M).toArray.all (·.oneCell') = true := all_oneCell_toArray (fun v hv => (List.mem_append.1 hv).elim (vals8_one L v) (vals8_one M v))
theorem run_array {T : TypeId} {o : Oper} {a : Act} {x : Operand} {w : World} {A : Option Addr} {n c : Nat} (hT : Try.prog.underlying T = Try.prog.underlying 94) (ho : o.op = .sliceToArrayPointer T x) (hx : a.eval x = .slice A n c) (h : 128 ≤ n) : (execOp a.eval o).run Try.prog w = .ok (.value (.pointer A)) w := by
  unfold execOp
  simp only [ho, hx, Instr.arrayAt, Sem.run_bind, run_underlying (hT.trans Try.underlying94), Result.andThen_ok]
  rw [if_neg (by omega)]
  rfl
theorem wpList_run {ops : Array Oper} {rest : List Oper} {o : Oper} {a : Act} {w w' : World} {v : Value} {Q : Exit → Act → World → Prop} (hgd : o.guard = none) (hrun : (execOp a.eval o).run Try.prog w = .ok (.value v) w')
    (h : wpList Try.prog ops Q rest (a.put o.dst v) w') : wpList Try.prog ops Q (o :: rest) a w := wpList_plain hgd fun _ hK => by
  unfold Oper.wp
  rw [hrun]
  exact hK _ _ h
theorem results_pair {fn : Func} {p u : Tmp} {ty : TypeId} (h : fn.results = #[.cell p ty, .tmp u]) {tmps : Array Value} {W : World} {b : Nat} {v x : Value} (hp : tmps.getD p undef = .pointer (some ⟨b, 0, none⟩)) (hu : tmps.getD u undef = x) (hl : (loadVar ty ⟨b, 0, none⟩).run Try.prog W = .ok v W) :
    (results fn tmps).run Try.prog W = .ok (.tuple #[v, x]) W := by
  rw [results_cell_tmp h, hp, hu]
  simp [asAddr, hl, Result.andThen]
theorem at_there {T : TypeId} {w : World} {b : Nat} {cs : Array Value} (h : At T w b cs) : w.there b 0 cs.size := fun j hj => by
  refine ⟨?_, h.free _⟩
  rw [h.cell, Nat.zero_add]
  simp [hj]
theorem range_at {T : TypeId} {w : World} {b : Nat} {L : List Value} (h : At T w b L.toArray) : w.rangeAt b 0 L := fun j v hv => by
  rw [Nat.zero_add, h.cell]; simpa using hv
theorem there_below {w w' : World} {b o n B : Nat} (h : w.there b o n) (hb : Below B w w') (hlt : b < B) : w'.there b o n := fun j hj =>
  ⟨by rw [hb.cell (p := ⟨b, o + j, none⟩) hlt]; exact (h j hj).1, by rw [hb.frozen (p := ⟨b, o + j, none⟩) hlt]; exact (h j hj).2⟩
theorem range_below {w w' : World} {b o B : Nat} {L : List Value} (h : w.rangeAt b o L) (hb : Below B w w') (hlt : b < B) : w'.rangeAt b o L := fun j v hv => (hb.cell (p := ⟨b, o + j, none⟩) hlt).trans (h j v hv)
theorem below_setCells {B : Nat} {w W : World} (h : Below B w W) (hB : B ≤ W.heap.size) {g : Nat} (hg : B ≤ g) (o : Nat) (vs : List Value) : Below B w (W.setCells g o vs) :=
  h.grown (grown_setCells g vs o W) hB (fun r e => by cases e; exact hg)
theorem there_sub {w : World} {b n : Nat} (h : w.there b 0 n) (o m : Nat) (hm : o + m ≤ n) : w.there b o m := fun j hj => by
  have := h (o + j) (by omega)
  rwa [Nat.zero_add] at this
theorem range_join {w : World} {b : Nat} {L M : List Int} (hL : L.length = 128) (h : w.rangeAt b 0 (vals8 L)) (h' : w.rangeAt b 128 (vals8 M)) : w.rangeAt b 0 (vals8 L ++ vals8 M) := fun j v hv => by
  by_cases hj : j < 128
  · rw [List.getElem?_append_left (by rw [vals8_len, hL]; exact hj)] at hv
    exact h j v hv
  · rw [List.getElem?_append_right (by rw [vals8_len, hL]; omega), vals8_len, hL] at hv
    have := h' (j - 128) v hv
    rw [show (128 : Nat) + (j - 128) = 0 + j by omega] at this
    exact this
def PairE (w w' : World) (L M : List Int) (e : Ending) : Prop := e = .returned (.tuple #[.agg (vals8 L ++ vals8 M).toArray, .int .i64 0]) ∧ Below w.heap.size w w'
theorem read_sec {d : Dv} (h : d.Ok) {n : Int} (hn : accE d n = 0) : Sec (d.read n) := by
  have hh : HasN d n := by
    unfold accE at hn
    refine Classical.byContradiction fun q => ?_
    rw [if_neg q] at hn
    split at hn <;> cases hn
  unfold Dv.read lastOf
  cases hf : d.cache.reverse.find? (fun x => decide (x.1 = n)) with
  | none => exact secs_get h.secs (by have := hh.1; have := hh.2; omega)
  | some x => exact (h.wr x (by have := List.mem_of_find?_eq_some hf; simpa using this)).2.2
set_option maxRecDepth 100000 in
set_option maxHeartbeats 2000000 in
theorem pairOf_any (p : Pl) (d : Dv) (w : World) (h : DevAt w p d) (hu : d.down = false) (h4 : 4 ≤ d.safe.length) :
    Calls Try.prog 25 #[ptr p.D] w fun e w' => PairE w w' (d.read 0) (d.read 1) e := by
  have hacc : ∀ k : Nat, k < 2 → accE d (k : Int) = 0 := fun k hk => by
    unfold accE; rw [hu, if_neg (by simp), if_pos ⟨by omega, by omega⟩]
  have HACC := Lib.hid hacc
  have HS := Lib.hid (show ∀ k : Nat, k < 2 → Sec (d.read (k : Int)) from fun k hk => read_sec h.ok (hacc k hk))
  have hz := (zero_of_info jpair_zero).1
  obtain ⟨X, hX⟩ : ∃ X, X = (w.alloc (.cells (nums .u8 256 fun _ => 0) 58)).alloc (.cells (nums .u8 256 fun _ => 0) 58) := ⟨_, rfl⟩
  have hb : Below w.heap.size w X := by rw [hX]; exact ((Below.refl _ w).alloc (Nat.le_refl _) _).alloc (by simp) _
  have hs : X.heap.size = w.heap.size + 2 := by rw [hX]; simp
  have a1 : At 58 X w.heap.size (nums .u8 256 fun _ => 0) := by rw [hX]; exact (At.new _ w _).below (B := w.heap.size + 1) (by omega) ((Below.refl _ _).alloc (by simp) _)
  have a2 : At 58 X (w.heap.size + 1) (nums .u8 256 fun _ => 0) := by
    rw [hX]; have := At.new 58 (w.alloc (.cells (nums .u8 256 fun _ => 0) 58)) (nums .u8 256 fun _ => 0); rwa [World.size_alloc] at this
  have t1 := at_there a1
  have t2 := at_there a2
  rw [nums_size] at t1 t2
  have H0 := Lib.hid (And.intro h (And.intro hb (And.intro hs (And.intro t1 t2))))
  have HX := Lib.hid hX
  clear h hu h4 hacc hX hb hs a1 a2 t1 t2
  go_enter Try.func25, Try.ntmps25
  go_wp2_with fail
  go_loopw [8] (fun i wr => ∃ k : Nat, k ≤ 2 ∧ i = .int .i64 (k : Int) ∧ wr.there w.heap.size 0 256 ∧ wr.there (w.heap.size + 1) 0 256 ∧ (∀ j, j < k → wr.rangeAt (w.heap.size + 1) (j * 128) (vals8 (d.read (j : Int)))) ∧ Below w.heap.size w wr ∧ w.heap.size + 2 ≤ wr.heap.size) (fun i _ => (2 - intOf i).toNat)
  case atStart => exact ⟨0, by omega, rfl, by rw [← HX.out]; exact ⟨H0.out.2.2.2.1, H0.out.2.2.2.2, fun j hj => by omega, H0.out.2.1, by have := H0.out.2.2.1; omega⟩⟩
  case round =>
    obtain ⟨k, hk, rfl, ht1, ht2, hr, hB, hsz⟩ := hrel
    have hd := H0.out.1.below hB
    by_cases hlt : k < 2
    · have i1 : (k : Int) < 2 := by omega
      have i0 : (0 : Int) ≤ (k : Int) := by omega
      have wk := wrap_succ (k := k) (by omega)
      have HR := Lib.hid (read_yes p d wr hd (k : Int) (HACC.out k hlt))
      have HK := Lib.hid (And.intro hlt (And.intro ht1 (And.intro ht2 (And.intro hr (And.intro hB hsz)))))
      obtain ⟨L, hL⟩ : ∃ L, d.read (k : Int) = L := ⟨_, rfl⟩
      have HL := Lib.hid hL
      have HSEC := Lib.hid (show Sec L by rw [← hL]; exact HS.out k hlt)
      rw [hL] at HR
      clear hk ht1 ht2 hr hB hsz hd hlt hL
      go_wp2_with (first
        | (go_at_call 45; refine HR.out.mono ?_; rintro e w1 ⟨⟨g, hg, rfl, hat, hb1⟩, hl⟩; have H1 := Lib.hid (And.intro hg (And.intro hat hb1)); have HT := Lib.hid (there_sub (there_below HK.out.2.2.1 hb1 (by have := HK.out.2.2.2.2.2; omega)) (k * 128) 128 (by have := HK.out.1; omega)); clear hg hat hb1 hl)
        | (refine wpList_run rfl (run_array (T := 56) (Try.underlying56.trans Try.underlying94.symm) rfl rfl (by decide)) ?_)
        | (refine wpList_load_mid rfl 56 _ rfl g 0 rfl (vals8 L) _ (range_at H1.out.2.1) Try.underlying56 rfl (jsec_size HSEC.out.1) ?_)
        | (refine wpList_store_mid rfl 56 _ _ rfl (w.heap.size + 1) (k * 128) (vals8 L).toArray rfl rfl (by simpa [vals8_len, HSEC.out.1] using HT.out) (by rw [jsec_size HSEC.out.1]; simp) (vals8_all L) ?_)
        | fail)
      obtain ⟨q1, q2, q3, q4, q5, q6⟩ := HK.out
      obtain ⟨g1, g2, g3⟩ := H1.out
      have hs1 := g3.size
      go_roundw
      case rel =>
        refine ⟨k + 1, by omega, rfl, World.there_setCells (there_below q2 g3 (by omega)) _ _ _, World.there_setCells (there_below q3 g3 (by omega)) _ _ _, fun j hj => ?_, below_setCells (q5.trans (g3.mono q5.size)) (by omega) (by omega) _ _, ?_⟩
        · by_cases e : j = k
          · subst e
            rw [HL.out]
            exact World.rangeAt_setCells_same _ _ _ _ (by rw [vals8_len, HSEC.out.1]; exact HT.out)
          · have hjl : (vals8 (d.read (j : Int))).length = 128 := by rw [vals8_len]; exact (HS.out j (by omega)).1
            have hll : (vals8 L).length = 128 := by rw [vals8_len]; exact HSEC.out.1
            exact World.rangeAt_setCells_apart (range_below (q4 j (by omega)) g3 (by omega)) _ _ _ (by rw [hjl, hll]; omega)
        · have := (grown_setCells (w.heap.size + 1) (vals8 L) (k * 128) w1).size
          omega
      case measure => first | exact meas_succ (K := 2) q1 wk | (clear wk; show ((2 : Int) - ((k : Int) + 1)).toNat < ((2 : Int) - (k : Int)).toNat; omega)
    · have hk2 : k = 2 := by omega
      subst hk2
      have i1 : ¬ (((2 : Nat) : Int) < 2) := by omega
      obtain ⟨L, hL⟩ : ∃ L, d.read 0 = L := ⟨_, rfl⟩
      obtain ⟨M, hM⟩ : ∃ M, d.read 1 = M := ⟨_, rfl⟩
      have sL : Sec L := by rw [← hL]; exact HS.out 0 (by omega)
      have sM : Sec M := by rw [← hM]; exact HS.out 1 (by omega)
      have r0 := hr 0 (by omega)
      have r1 := hr 1 (by omega)
      rw [show d.read ((0 : Nat) : Int) = L from hL] at r0
      rw [show d.read ((1 : Nat) : Int) = M from hM] at r1
      have HR2 := Lib.hid (range_join sL.1 r0 r1)
      have HSZ := Lib.hid (show (vals8 L ++ vals8 M).toArray.size = 256 by simp [vals8_len, sL.1, sM.1])
      have HSS := Lib.hid (And.intro sL.1 sM.1)
      have HT1 := Lib.hid (show wr.there w.heap.size 0 (vals8 L ++ vals8 M).toArray.size by rw [HSZ.out]; exact ht1)
      have HB := Lib.hid (And.intro hB hsz)
      have HLM := Lib.hid (And.intro hL hM)
      have hld : (loadVar 58 ⟨w.heap.size, 0, none⟩).run Try.prog (wr.setCells w.heap.size 0 (vals8 L ++ vals8 M)) = .ok (.agg (vals8 L ++ vals8 M).toArray) (wr.setCells w.heap.size 0 (vals8 L ++ vals8 M)) :=
        run_loadVar_mid (P := Try.prog) _ w.heap.size 0 58 _ _ (World.rangeAt_setCells_same _ _ _ _ (by simpa [vals8_len, sL.1, sM.1] using ht1)) Try.underlying58 rfl (jpair_size sL.1 sM.1)
      have HLD := Lib.hid hld
      clear ht1 ht2 hr hB hsz hd hlt hk hL hM sL sM r0 r1 hld
      go_wp2_with (first
        | (refine wpList_load_mid rfl 58 _ rfl (w.heap.size + 1) 0 rfl (vals8 L ++ vals8 M) _ HR2.out Try.underlying58 rfl (jpair_size HSS.out.1 HSS.out.2) ?_)
        | (refine wpList_store_mid rfl 58 _ _ rfl w.heap.size 0 (vals8 L ++ vals8 M).toArray rfl rfl HT1.out (by rw [jpair_size HSS.out.1 HSS.out.2]; simp) (pair_all L M) ?_)
        | fail)
      refine bodyPost_ret (v := .tuple #[.agg (vals8 L ++ vals8 M).toArray, .int .i64 0]) (results_pair rfl rfl rfl HLD.out) rfl ?_
      unfold PairE
      rw [HLM.out.1, HLM.out.2]
      exact ⟨rfl, below_setCells HB.out.1 (by have := HB.out.2; omega) (Nat.le_refl _) _ _⟩
end Go.Proofs.Ytpcbolmidnoaiaa
