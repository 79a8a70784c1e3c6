/- Safe: a copy of a sector. -/
import Derived.Test.YteopbeafhhfdoaaDWrite
set_option linter.unusedVariables false
set_option linter.unusedSimpArgs false
namespace Go.Proofs.Yteopbeafhhfdoaa
open Go.RowKit
theorem At.row {T : TypeId} {W : World} {b : Nat} {cs cs' : Array Value} (h : At T W b cs) : At T (W.setRow b cs') b cs' := setRow_heap W b cs cs' _ _ h
theorem below_row {B : Nat} {w W : World} (h : Below B w W) {g : Nat} (hg : B ≤ g) (cs : Array Value) : Below B w (W.setRow g cs) :=
  ⟨h.os, h.tape, h.output, by simpa using h.size, fun k hk => (setRow_other W g k cs (by omega)).trans (h.block k hk)⟩
theorem sec_zero : (Try.prog.info? 72).map (fun i => (i.zero, i.size)) = some (some (.agg (nums .u8 128 fun _ => 0)), 128) := by kernel_rfl
theorem wr_zero : (Try.prog.info? 75).map (fun i => (i.zero, i.size)) = some (some (.agg (#[.int .i64 0] ++ nums .u8 128 fun _ => 0)), 129) := by kernel_rfl
theorem vals8_all (L : List Int) : (vals8 L).toArray.all (·.oneCell') = true := all_oneCell_toArray (vals8_one L)
theorem wcells_all (x : Int × List Int) : (wcells x).toArray.all (·.oneCell') = true := all_oneCell_toArray (wcells_one x)
theorem load_sec_op {ops : Array Oper} {rest : List Oper} {o : Oper} {a : Act} {w : World} {Q : Exit → Act → World → Prop} {x : Operand} {b k : Nat} {L : List Int} (h : w.rangeAt b k (vals8 L)) (hl : L.length = 128)
    (hgd : o.guard = none) (ho : o.op = .load 72 x) (hx : a.eval x = .pointer (some ⟨b, k, none⟩)) (hk : wpList Try.prog ops Q rest (a.put o.dst (secA L)) w) : wpList Try.prog ops Q (o :: rest) a w :=
  wpList_load_mid hgd _ x ho b k hx _ _ h Try.underlying72 rfl (sec_size hl) hk
theorem store_sec_op {ops : Array Oper} {rest : List Oper} {o : Oper} {a : Act} {w : World} {Q : Exit → Act → World → Prop} {x y : Operand} {T : TypeId} {g : Nat} {L : List Int} {cs : Array Value} (hg : At T w g cs) (hs : cs.size = 128) (hl : L.length = 128)
    (hgd : o.guard = none) (ho : o.op = .store 72 x y) (hx : a.eval x = .pointer (some ⟨g, 0, none⟩)) (hy : a.eval y = secA L) (hk : wpList Try.prog ops Q rest (a.put o.dst undef) (w.setRow g (vals8 L).toArray)) : wpList Try.prog ops Q (o :: rest) a w :=
  wpList_store_row hgd 72 x y ho g (vals8 L).toArray hx hy _ _ hg (by rw [sec_size hl]; simp) (by simp [vals8_len, hl, hs]) (vals8_all L) hk
theorem load_wr_op {ops : Array Oper} {rest : List Oper} {o : Oper} {a : Act} {w : World} {Q : Exit → Act → World → Prop} {x : Operand} {b k : Nat} {n : Int} {L : List Int} (h : w.rangeAt b k (wcells (n, L))) (hl : L.length = 128)
    (hgd : o.guard = none) (ho : o.op = .load 75 x) (hx : a.eval x = .pointer (some ⟨b, k, none⟩)) (hk : wpList Try.prog ops Q rest (a.put o.dst (wrA n L)) w) : wpList Try.prog ops Q (o :: rest) a w :=
  wpList_load_mid hgd _ x ho b k hx _ _ h Try.underlying75 rfl (wr_size hl) hk
theorem store_wr_op {ops : Array Oper} {rest : List Oper} {o : Oper} {a : Act} {w : World} {Q : Exit → Act → World → Prop} {x y : Operand} {T : TypeId} {g : Nat} {n : Int} {L : List Int} {cs : Array Value} (hg : At T w g cs) (hs : cs.size = 129) (hl : L.length = 128)
    (hgd : o.guard = none) (ho : o.op = .store 75 x y) (hx : a.eval x = .pointer (some ⟨g, 0, none⟩)) (hy : a.eval y = wrA n L) (hk : wpList Try.prog ops Q rest (a.put o.dst undef) (w.setRow g (wcells (n, L)).toArray)) : wpList Try.prog ops Q (o :: rest) a w :=
  wpList_store_row hgd 75 x y ho g (wcells (n, L)).toArray hx hy _ _ hg (by rw [wr_size (n := n) hl]; simp) (by simp [wcells_len (x := (n, L)) hl, hs]) (wcells_all _) hk
/-- The bytes of a new block. -/
def SecOut (w w' : World) (L : List Int) (e : Ending) : Prop := ∃ g, w.heap.size ≤ g ∧ e = .returned (.tuple #[.slice (some ⟨g, 0, none⟩) 128 128, .int .i64 0]) ∧ At 72 w' g (vals8 L).toArray ∧ Below w.heap.size w w'
theorem slice_all (g : Nat) (w : World) : (Instr.sliceAt 72 (.pointer (some ⟨g, 0, none⟩)) none none none).run Try.prog w = .ok (.slice (some ⟨g, 0, none⟩) 128 128) w := by
  have h := run_sliceAt_array_all (P := Try.prog) w 72 ⟨g, 0, none⟩ (by kernel_rfl)
  exact h.trans (by kernel_rfl)
theorem DevAt.sec {w : World} {p : Pl} {d : Dv} (h : DevAt w p d) {n : Int} (hn : HasN d n) : w.rangeAt p.S (n.toNat * 128) (vals8 (d.at n)) ∧ (d.at n).length = 128 := by
  have hi : n.toNat < d.safe.length := by have := hn.1; have := hn.2; omega
  have hs : d.at n = d.safe[n.toNat] := by unfold Dv.at; simp [List.getD, hi]
  have hr : ∀ r ∈ d.safe.map vals8, r.length = 128 := fun r hr => by
    obtain ⟨L, hL, rfl⟩ := List.mem_map.1 hr
    rw [vals8_len]; exact (h.ok.secs L hL).1
  have := range_of_row h.safe hr (by simp) n.toNat (by simpa using hi)
  rw [List.getElem_map] at this
  rw [hs]
  exact ⟨this, (h.ok.secs _ (List.getElem_mem hi)).1⟩
set_option maxRecDepth 100000 in
theorem safe_yes (p : Pl) (d : Dv) (w : World) (h : DevAt w p d) (n : Int) (hn : HasN d n) :
    Calls Try.prog 15 #[ptr p.D, .int .i64 n] w fun e w' => SecOut w w' (d.at n) e := by
  have HM := Lib.hid (made_any p d w h)
  have hh := has_any p d w h n
  rw [decide_eq_true hn] at hh
  have HH := Lib.hid hh
  obtain ⟨hr, hl⟩ := h.sec hn
  have c0 : w.cell? ⟨p.D, 0, none⟩ = some (.slice (some ⟨p.S, 0, none⟩) d.safe.length p.cS) := h.dev.cell 0
  have n0 := hn.1
  have n1 := hn.2
  have hz := (zero_of_info sec_zero).1
  have HR := Lib.hid hr
  have HL := Lib.hid hl
  obtain ⟨m, rfl⟩ : ∃ m : Nat, n = m := ⟨n.toNat, by omega⟩
  rw [Int.toNat_natCast] at HR
  generalize d.at m = L at *
  have HA := Lib.hid (At.new 72 w (nums .u8 128 fun _ => 0))
  have HB := Lib.hid ((Below.refl _ w).alloc (Nat.le_refl _) (.cells (nums .u8 128 fun _ => 0) 72))
  have sl := slice_all w.heap.size
  clear h hh hr hn hl
  go_enter Try.func15, Try.ntmps15
  go_wp2_with (first | (go_at_call 29; refine HM.out.mono ?_; rintro e w' ⟨rfl, rfl⟩) | (go_at_call 37; refine HH.out.mono ?_; rintro e w' ⟨rfl, rfl⟩) | (refine load_sec_op HR.out HL.out rfl rfl rfl ?_) | (refine store_sec_op HA.out (nums_size _ _ _) HL.out rfl rfl rfl rfl ?_))
  go_ret2
  exact ⟨w.heap.size, Nat.le_refl _, rfl, HA.out.row, below_row HB.out (Nat.le_refl _) _⟩
theorem safe_no (p : Pl) (d : Dv) (w : World) (h : DevAt w p d) (n : Int) (hn : ¬ HasN d n) :
    Calls Try.prog 15 #[ptr p.D, .int .i64 n] w fun e w' => e = .returned (.tuple #[.slice none 0 0, .int .i64 121]) ∧ w = w' := by
  have HM := Lib.hid (made_any p d w h)
  have hh := has_any p d w h n
  rw [decide_eq_false hn] at hh
  have HH := Lib.hid hh
  clear h hh hn
  go_enter Try.func15, Try.ntmps15
  go_wp2_with (first | (go_at_call 29; refine HM.out.mono ?_; rintro e w' ⟨rfl, rfl⟩) | (go_at_call 37; refine HH.out.mono ?_; rintro e w' ⟨rfl, rfl⟩))
  go_ret2
  exact ⟨rfl, rfl⟩
end Go.Proofs.Yteopbeafhhfdoaa
