/- An entry that came in. -/
import Derived.Test.YtmeamdfmcpkofaaDoorEEq
import Derived.OpenShut
import Derived.ChangeArms
import Derived.WideShapes
import Derived.ShutString
import Derived.ChangeOld
import Derived.Stop.Joined
namespace Go.Proofs.YtmeamdfmcpkofaaDoor
open Go.ChangeShapes Go.WideShapes Go.RowKit
set_option linter.unusedVariables false
theorem fkey_at {fs : List Field} {L : List (String × TypeId × Nat)} (h : fs.map fkey = L) {i : Nat} {nm : String} {T : TypeId} {off : Nat} (hi : L[i]? = some (nm, T, off)) : ∃ f, fs[i]? = some f ∧ f.type = T ∧ f.offset = off := by
  rw [← h, List.getElem?_map] at hi
  cases hf : fs[i]? with
  | none => rw [hf] at hi; cases hi
  | some f =>
    rw [hf] at hi
    simp only [Option.map_some, Option.some.injEq, fkey, Prod.mk.injEq] at hi
    exact ⟨f, rfl, hi.2.1, hi.2.2⟩
theorem one_of {cs : List Value} {off : Nat} {v : Value} (h : (cs.drop off).take 1 = [v]) : cs[off]? = some v := by
  have := congrArg (·[0]?) h
  simpa [List.getElem?_take, List.getElem?_drop] using this
set_option maxRecDepth 100000 in
set_option maxHeartbeats 1000000 in
theorem open_en {H : Type} {enc : TypeId × Value → H} {W : World} {base base2 : Nat} {sp : Nat → Bool} {held : Bool} {r : Reach} {v : Value} {d : DataW H} {p : List MemPlace}
    (hv : Value.okWide Tryd.prog W r base 27 v) (h : DataW.Trod enc Tryd.prog W base2 sp held 27 v d p) : ∃ x : En, v = .agg (enV x) ∧ x.ok := by
  have hst : Tryd.prog.underlying 27 = some (.struct (Tryd.prog.fieldsOf 27)) := by kernel_rfl
  obtain ⟨cs, rfl, hsz⟩ := okWide_struct hst hv
  have hsz : cs.size = 42 := hsz.trans (by kernel_rfl)
  obtain ⟨fuel, hf⟩ := h
  obtain ⟨xs, n, _, _, _, hxl, hel⟩ := DataW.trod_struct hst (show DataW.trod enc Tryd.prog W base2 sp held fuel 27 cs.toList = some _ by simpa [Value.cells] using hf)
  have hk : (Tryd.prog.fieldsOf 27).toList.map fkey = [("Kind", 3, 0), ("Meter", 3, 1), ("Start", 2, 2), ("Energy", 2, 3), ("Band", 3, 4), ("Price", 2, 5), ("Cost", 2, 6), ("Flags", 3, 7), ("Count", 22, 8), ("Seq", 23, 9), ("Hash", 25, 10)] := by kernel_rfl
  have hxl' : xs.length = 11 := hxl.trans (by kernel_rfl)
  have c3 : Tryd.prog.cellsOf 3 = 1 := by kernel_rfl
  have c2 : Tryd.prog.cellsOf 2 = 1 := by kernel_rfl
  have c22 : Tryd.prog.cellsOf 22 = 1 := by kernel_rfl
  have c23 : Tryd.prog.cellsOf 23 = 1 := by kernel_rfl
  have c25 : Tryd.prog.cellsOf 25 = 32 := by kernel_rfl
  have get : ∀ (i : Nat) (nm : String) (T : TypeId) (k : IntKind) (off : Nat), i < 11 → Tryd.prog.underlying T = some (.int k) → Tryd.prog.cellsOf T = 1 → (Tryd.prog.fieldsOf 27).toList.map fkey = (Tryd.prog.fieldsOf 27).toList.map fkey → ((Tryd.prog.fieldsOf 27).toList.map fkey)[i]? = some (nm, T, off) → ∃ m : Int, cs[off]? = some (.int k m) ∧ (Lit.int k m).wf = true := by
    intro i nm T k off hi hu hc _ hL
    obtain ⟨f, hf1, hf2, hf3⟩ := fkey_at rfl hL
    have h1 := hel i f (by simpa using hf1)
    rw [hf2, hf3, hc, show xs[i]? = some xs[i] from List.getElem?_eq_getElem (by omega)] at h1
    obtain ⟨m, e1, _, hw⟩ := DataW.trod_int hu h1
    exact ⟨m, by simpa using one_of e1, hw⟩
  have i64 : ∀ {m : Int}, (Lit.int .i64 m).wf = true → R64 m := fun {m} h => by
    simp [Lit.wf, IntKind.min, IntKind.max, IntKind.bits, IntKind.signed] at h; exact h
  obtain ⟨m0, e0, w0⟩ := get 0 "Kind" 3 .i64 0 (by omega) Tryd.underlying3 c3 rfl (by rw [hk]; rfl)
  obtain ⟨m1, e1, w1⟩ := get 1 "Meter" 3 .i64 1 (by omega) Tryd.underlying3 c3 rfl (by rw [hk]; rfl)
  obtain ⟨m2, e2, w2⟩ := get 2 "Start" 2 .i64 2 (by omega) Tryd.underlying2 c2 rfl (by rw [hk]; rfl)
  obtain ⟨m3, e3, w3⟩ := get 3 "Energy" 2 .i64 3 (by omega) Tryd.underlying2 c2 rfl (by rw [hk]; rfl)
  obtain ⟨m4, e4, w4⟩ := get 4 "Band" 3 .i64 4 (by omega) Tryd.underlying3 c3 rfl (by rw [hk]; rfl)
  obtain ⟨m5, e5, w5⟩ := get 5 "Price" 2 .i64 5 (by omega) Tryd.underlying2 c2 rfl (by rw [hk]; rfl)
  obtain ⟨m6, e6, w6⟩ := get 6 "Cost" 2 .i64 6 (by omega) Tryd.underlying2 c2 rfl (by rw [hk]; rfl)
  obtain ⟨m7, e7, w7⟩ := get 7 "Flags" 3 .i64 7 (by omega) Tryd.underlying3 c3 rfl (by rw [hk]; rfl)
  obtain ⟨m8, e8, w8⟩ := get 8 "Count" 22 .u32 8 (by omega) Tryd.underlying22 c22 rfl (by rw [hk]; rfl)
  obtain ⟨m9, e9, w9⟩ := get 9 "Seq" 23 .u64 9 (by omega) Tryd.underlying23 c23 rfl (by rw [hk]; rfl)
  obtain ⟨fh, hf1, hf2, hf3⟩ := fkey_at (fs := (Tryd.prog.fieldsOf 27).toList) rfl (i := 10) (nm := "Hash") (T := 25) (off := 10) (by rw [hk]; rfl)
  have h1 := hel 10 fh (by simpa using hf1)
  rw [hf2, hf3, c25, show xs[10]? = some xs[10] from List.getElem?_eq_getElem (by omega)] at h1
  obtain ⟨ys, m, _, ex, _, hl, hel2⟩ := DataW.trod_array Tryd.underlying25 h1
  have c1 : Tryd.prog.cellsOf 5 = 1 := by kernel_rfl
  have all : ∀ j, j < 32 → ∃ n : Int, cs[10 + j]? = some (.int .u8 n) ∧ 0 ≤ n ∧ n < 256 := by
    intro j hj
    have h2 := hel2 j hj
    rw [c1, Nat.mul_one, show ys[j]? = some ys[j] from List.getElem?_eq_getElem (by omega)] at h2
    obtain ⟨n, e1, _, hw⟩ := DataW.trod_int Tryd.underlying5 h2
    refine ⟨n, ?_, ?_⟩
    · have h3 := one_of e1
      rw [List.getElem?_take_of_lt (by omega), List.getElem?_drop] at h3
      simpa using h3
    · simp [Lit.wf, IntKind.min, IntKind.max, IntKind.bits, IntKind.signed] at hw; omega
  obtain ⟨num, hnum⟩ : ∃ num : Option Value → Int, ∀ k n, num (some (.int k n)) = n := ⟨fun | some (.int _ n) => n | _ => 0, fun _ _ => rfl⟩
  refine ⟨⟨m0, m1, m2, m3, m4, m5, m6, m7, m8, m9, (List.range 32).map fun j => num cs[10 + j]?⟩, ?_, ⟨i64 w0, i64 w1, i64 w2, i64 w3, i64 w4, i64 w5, i64 w6, i64 w7, ?_, ?_, ?_, by simp⟩⟩
  · refine congrArg Value.agg ?_
    apply Array.ext_getElem?
    intro i
    by_cases hi : i < 42
    · by_cases h10 : i < 10
      · obtain ⟨g0, g1, g2, g3, g4, g5, g6, g7, g8, g9⟩ := enV_get ⟨m0, m1, m2, m3, m4, m5, m6, m7, m8, m9, (List.range 32).map fun j => num cs[10 + j]?⟩
        have hc : i = 0 ∨ i = 1 ∨ i = 2 ∨ i = 3 ∨ i = 4 ∨ i = 5 ∨ i = 6 ∨ i = 7 ∨ i = 8 ∨ i = 9 := by omega
        rcases hc with rfl | rfl | rfl | rfl | rfl | rfl | rfl | rfl | rfl | rfl
        · exact e0.trans g0.symm
        · exact e1.trans g1.symm
        · exact e2.trans g2.symm
        · exact e3.trans g3.symm
        · exact e4.trans g4.symm
        · exact e5.trans g5.symm
        · exact e6.trans g6.symm
        · exact e7.trans g7.symm
        · exact e8.trans g8.symm
        · exact e9.trans g9.symm
      · obtain ⟨j, rfl⟩ : ∃ j, i = 10 + j := ⟨i - 10, by omega⟩
        obtain ⟨n, e, _⟩ := all j (by omega)
        rw [enV_hash _ j (by omega), e]
        simp [bf, List.getD, show j < 32 by omega, e, hnum]
    · rw [Array.getElem?_eq_none (by omega), Array.getElem?_eq_none (by rw [enV_size]; omega)]
  · simp [Lit.wf, IntKind.min, IntKind.max, IntKind.bits, IntKind.signed] at w8; exact ⟨w8.1, show m8 < 4294967296 by omega⟩
  · simp [Lit.wf, IntKind.min, IntKind.max, IntKind.bits, IntKind.signed] at w9; exact ⟨w9.1, show m9 < 18446744073709551616 by omega⟩
  · intro x hx
    simp only [List.mem_map, List.mem_range] at hx
    obtain ⟨j, hj, rfl⟩ := hx
    obtain ⟨n, e, h0, h1⟩ := all j hj
    rw [e, hnum]; exact ⟨h0, h1⟩
end Go.Proofs.YtmeamdfmcpkofaaDoor
