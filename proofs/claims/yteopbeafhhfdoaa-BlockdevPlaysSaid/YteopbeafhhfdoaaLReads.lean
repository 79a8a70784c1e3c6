/- What a sector reads as. -/
import Derived.Test.YteopbeafhhfdoaaLFull
set_option linter.unusedVariables false
set_option linter.unusedSimpArgs false
namespace Go.Proofs.Yteopbeafhhfdoaa
open Go.RowKit
theorem conv_bys {B : Nat} {w : World} {a : Option Addr} {l c : Nat} {xs : List Int} (h : Bys8 B w (.slice a l c) xs) : (convert 32 9 (.slice a l c)).run Try.prog w = .ok (.string (strOfNums xs)) w := by
  rcases h.2 with ⟨rfl, a', cap, e⟩ | ⟨b, off, cap, e, hb, hc⟩
  · cases e
    cases a with
    | none => exact run_convert_bytes_nil (P := Try.prog) w 32 5 Try.underlying32 Try.underlying5 0 c 9 Try.underlying9
    | some x =>
      rw [run_convert_bytes_string w 32 9 5 _ 0 c Try.underlying32 Try.underlying5 Try.underlying9, run_bytesToString w x 0 c [] (by simp [loadCells, loadCellsFrom])]
      rfl
  · cases e
    exact run_convert_bytes_arg (P := Try.prog) w 32 5 Try.underlying32 Try.underlying5 b off xs.length c xs rfl (fun i hi => hc i hi) 9 Try.underlying9
theorem toList_beq (s t : ByteArray) : (s.toList == t.toList) = decide (s = t) := by
  rw [Bool.eq_iff_iff, beq_iff_eq, decide_eq_true_iff]
  refine ⟨fun h => ?_, fun h => by rw [h]⟩
  rw [ByteArray.toList_eq, ByteArray.toList_eq] at h
  exact ByteArray.ext (Array.toList_inj.1 h)
theorem u8_inj {x y : Int} (hx : 0 ≤ x ∧ x < 256) (hy : 0 ≤ y ∧ y < 256) (h : UInt8.ofNat x.toNat = UInt8.ofNat y.toNat) : x = y := by
  have := congrArg UInt8.toNat h
  simp at this
  omega
theorem strN_inj : ∀ {xs ys : List Int}, (∀ x ∈ xs, 0 ≤ x ∧ x < 256) → (∀ x ∈ ys, 0 ≤ x ∧ x < 256) → (xs.map fun n => UInt8.ofNat n.toNat) = (ys.map fun n => UInt8.ofNat n.toNat) → xs = ys
  | [], [], _, _, _ => rfl
  | [], y :: ys, _, _, h => by cases h
  | x :: xs, [], _, _, h => by cases h
  | x :: xs, y :: ys, hx, hy, h => by
    injection h with h1 h2
    rw [u8_inj (hx x List.mem_cons_self) (hy y List.mem_cons_self) h1, strN_inj (fun z hz => hx z (List.mem_cons_of_mem _ hz)) (fun z hz => hy z (List.mem_cons_of_mem _ hz)) h2]
theorem str_inj {xs ys : List Int} (hx : ∀ x ∈ xs, 0 ≤ x ∧ x < 256) (hy : ∀ x ∈ ys, 0 ≤ x ∧ x < 256) (h : strOfNums xs = strOfNums ys) : xs = ys :=
  strN_inj hx hy (by have := congrArg (fun b => b.data.toList) h; rwa [strOfNums_data, strOfNums_data] at this)
/-- The bytes of a block that is known whole. -/
theorem bys_at {T : TypeId} {w : World} {g : Nat} {L : List Int} (h : At T w g (vals8 L).toArray) (hL : ∀ x ∈ L, 0 ≤ x ∧ x < 256) (cap : Nat) : Bys8 w.heap.size w (.slice (some ⟨g, 0, none⟩) L.length cap) L :=
  ⟨hL, .inr ⟨g, 0, cap, rfl, h.lt, fun j hj => by rw [Nat.zero_add, h.cell]; simpa using vals8_get L j hj⟩⟩
theorem read_bytes {d : Dv} (h : d.Ok) {n : Int} (hn : HasN d n) : Sec (d.read n) := by
  unfold Dv.read lastOf
  cases hf : d.cache.reverse.find? (fun x => decide (x.1 = n)) with
  | none => exact secs_get h.secs (by have := hn.1; have := hn.2; omega)
  | some x => exact (h.wr x (by have := List.mem_of_find?_eq_some hf; simpa using this)).2.2
theorem has_of {d : Dv} {n : Int} (hn : accE d n = 0) : HasN d n := by
  unfold accE at hn
  refine Classical.byContradiction fun q => ?_
  rw [if_neg q] at hn
  split at hn <;> cases hn
set_option maxRecDepth 100000 in
theorem reads_any (p : Pl) (d : Dv) (w : World) (h : DevAt w p d) (n : Int) (a : Option Addr) (l c : Nat) (want : List Int) (hw : Bys8 w.heap.size w (.slice a l c) want) :
    Calls Try.prog 24 #[ptr p.D, .int .i64 n, .slice a l c] w fun e w' => e = .returned (.bool (decide (accE d n = 0 ∧ d.read n = want))) ∧ Below w.heap.size w w' := by
  by_cases hn : accE d n = 0
  · have HR := Lib.hid (read_yes p d w h n hn)
    have hsec := read_bytes h.ok (has_of hn)
    have HS := Lib.hid hsec
    have HW := Lib.hid hw
    have hd : decide (accE d n = 0 ∧ d.read n = want) = decide (strOfNums (d.read n) = strOfNums want) := by
      rw [Bool.eq_iff_iff, decide_eq_true_iff, decide_eq_true_iff]
      exact ⟨fun q => by rw [q.2], fun q => ⟨hn, str_inj hsec.2 hw.1 q⟩⟩
    rw [hd]
    have HD := Lib.hid hn
    clear h hn hw hsec hd
    generalize d.read n = L at *
    go_enter Try.func24, Try.ntmps24
    go_wp2_with fail
    refine HR.out.mono ?_
    rintro e w1 ⟨⟨g, hg, rfl, hat, hB⟩, hl⟩
    have hc1 := conv_bys (bys_at hat HS.out.2 128)
    rw [HS.out.1] at hc1
    have hc2 := conv_bys (HW.out.below hB)
    have HB := Lib.hid hB
    clear hg hat hB hl
    obtain ⟨s1, hs1⟩ : ∃ s, strOfNums L = s := ⟨_, rfl⟩
    obtain ⟨s2, hs2⟩ : ∃ s, strOfNums want = s := ⟨_, rfl⟩
    rw [hs1] at hc1
    rw [hs2] at hc2
    have HS1 := Lib.hid (And.intro hs1 hs2)
    clear hs1 hs2
    go_wp2
    go_ret
    refine ⟨?_, HB.out⟩
    rw [HS1.out.1, HS1.out.2, ← toList_beq]
    rfl
  · have HR := Lib.hid (read_no p d w h n hn)
    have hd : decide (accE d n = 0 ∧ d.read n = want) = false := decide_eq_false (fun q => hn q.1)
    rw [hd]
    generalize accE d n = x at *
    have e1 : (x == 0) = false := by simpa using hn
    clear h hw hd hn
    go_enter Try.func24, Try.ntmps24
    go_wp2_with (refine HR.out.mono ?_; rintro e w' ⟨rfl, rfl⟩)
    go_ret
    exact ⟨rfl, Below.refl _ _⟩
end Go.Proofs.Yteopbeafhhfdoaa
