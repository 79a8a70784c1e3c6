/- Safe: a copy of a sector. -/
import Derived.Test.YtpcbolmidnoaiaaDWrite
set_option linter.unusedVariables false
set_option maxRecDepth 100000
set_option linter.unusedSimpArgs false
namespace Go.Proofs.Ytpcbolmidnoaiaa
open Go.RowKit
theorem At.row {T : TypeId} {W : World} {b : Nat} {cs cs' : Array Value} (h : At T W b cs) : At T (W.setRow b cs') b cs' := setRow_heap W b cs cs' _ _ h
theorem below_row {B : Nat} {w W : World} (h : Below B w W) {g : Nat} (hg : B ≤ g) (cs : Array Value) : Below B w (W.setRow g cs) :=
  ⟨h.os, h.tape, h.output, by simpa using h.size, fun k hk => (setRow_other W g k cs (by omega)).trans (h.block k hk)⟩
theorem sec_zero : (Try.prog.info? 94).map (fun i => (i.zero, i.size)) = some (some (.agg (nums .u8 128 fun _ => 0)), 128) := by kernel_rfl
theorem wr_zero : (Try.prog.info? 96).map (fun i => (i.zero, i.size)) = some (some (.agg (#[.int .i64 0] ++ nums .u8 128 fun _ => 0)), 129) := by kernel_rfl
theorem vals8_all (L : List Int) : (vals8 L).toArray.all (·.oneCell') = true := all_oneCell_toArray (vals8_one L)
theorem wcells_all (x : Int × List Int) : (wcells x).toArray.all (·.oneCell') = true := all_oneCell_toArray (wcells_one x)
theorem load_sec_op {ops : Array Oper} {rest : List Oper} {o : Oper} {a : Act} {w : World} {Q : Exit → Act → World → Prop} {x : Operand} {b k : Nat} {L : List Int} (h : w.rangeAt b k (vals8 L)) (hl : L.length = 128)
    (hgd : o.guard = none) (ho : o.op = .load 94 x) (hx : a.eval x = .pointer (some ⟨b, k, none⟩)) (hk : wpList Try.prog ops Q rest (a.put o.dst (secA L)) w) : wpList Try.prog ops Q (o :: rest) a w :=
  wpList_load_mid hgd _ x ho b k hx _ _ h Try.underlying94 rfl (sec_size hl) hk
theorem store_sec_op {ops : Array Oper} {rest : List Oper} {o : Oper} {a : Act} {w : World} {Q : Exit → Act → World → Prop} {x y : Operand} {T : TypeId} {g : Nat} {L : List Int} {cs : Array Value} (hg : At T w g cs) (hs : cs.size = 128) (hl : L.length = 128)
    (hgd : o.guard = none) (ho : o.op = .store 94 x y) (hx : a.eval x = .pointer (some ⟨g, 0, none⟩)) (hy : a.eval y = secA L) (hk : wpList Try.prog ops Q rest (a.put o.dst undef) (w.setRow g (vals8 L).toArray)) : wpList Try.prog ops Q (o :: rest) a w :=
  wpList_store_row hgd 94 x y ho g (vals8 L).toArray hx hy _ _ hg (by rw [sec_size hl]; simp) (by simp [vals8_len, hl, hs]) (vals8_all L) hk
theorem load_wr_op {ops : Array Oper} {rest : List Oper} {o : Oper} {a : Act} {w : World} {Q : Exit → Act → World → Prop} {x : Operand} {b k : Nat} {n : Int} {L : List Int} (h : w.rangeAt b k (wcells (n, L))) (hl : L.length = 128)
    (hgd : o.guard = none) (ho : o.op = .load 96 x) (hx : a.eval x = .pointer (some ⟨b, k, none⟩)) (hk : wpList Try.prog ops Q rest (a.put o.dst (wrA n L)) w) : wpList Try.prog ops Q (o :: rest) a w :=
  wpList_load_mid hgd _ x ho b k hx _ _ h Try.underlying96 rfl (wr_size hl) hk
theorem store_wr_op {ops : Array Oper} {rest : List Oper} {o : Oper} {a : Act} {w : World} {Q : Exit → Act → World → Prop} {x y : Operand} {T : TypeId} {g : Nat} {n : Int} {L : List Int} {cs : Array Value} (hg : At T w g cs) (hs : cs.size = 129) (hl : L.length = 128)
    (hgd : o.guard = none) (ho : o.op = .store 96 x y) (hx : a.eval x = .pointer (some ⟨g, 0, none⟩)) (hy : a.eval y = wrA n L) (hk : wpList Try.prog ops Q rest (a.put o.dst undef) (w.setRow g (wcells (n, L)).toArray)) : wpList Try.prog ops Q (o :: rest) a w :=
  wpList_store_row hgd 96 x y ho g (wcells (n, L)).toArray hx hy _ _ hg (by rw [wr_size (n := n) hl]; simp) (by simp [wcells_len (x := (n, L)) hl, hs]) (wcells_all _) hk
/-- The bytes of a new block. -/
def SecOut (w w' : World) (L : List Int) (e : Ending) : Prop := ∃ g, w.heap.size ≤ g ∧ e = .returned (.tuple #[.slice (some ⟨g, 0, none⟩) 128 128, .int .i64 0]) ∧ At 94 w' g (vals8 L).toArray ∧ Below w.heap.size w w'
theorem slice_all (g : Nat) (w : World) : (Instr.sliceAt 94 (.pointer (some ⟨g, 0, none⟩)) none none none).run Try.prog w = .ok (.slice (some ⟨g, 0, none⟩) 128 128) w := by
  have h := run_sliceAt_array_all (P := Try.prog) w 94 ⟨g, 0, none⟩ (by kernel_rfl)
  exact h.trans (by kernel_rfl)
theorem DevAt.sec {w : World} {p : Pl} {d : Dv} (h : DevAt w p d) {n : Int} (hn : HasN d n) : w.rangeAt p.S (n.toNat * 128) (vals8 (d.at n)) ∧ (d.at n).length = 128 := by
  have hi : n.toNat < d.safe.length := by have := hn.1; have := hn.2; omega
  have hs : d.at n = d.safe[n.toNat] := by unfold Dv.at; simp [List.getD, hi]
  have hr : ∀ r ∈ d.safe.map vals8, r.length = 128 := fun r hr => by
    obtain ⟨L, hL, rfl⟩ := List.mem_map.1 hr
    rw [vals8_len]; exact (h.ok.secs L hL).1
  have := range_of_row h.safe hr (by simp) n.toNat (by simpa using hi)
  rw [List.getElem_map] at this
  rw [hs]
  exact ⟨this, (h.ok.secs _ (List.getElem_mem hi)).1⟩
end Go.Proofs.Ytpcbolmidnoaiaa
