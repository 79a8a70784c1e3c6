/- alive: the chapter's first example. -/
import Derived.Test.YtmhgphbafiilnaaFExact
import Derived.Test.YtmhgphbafiilnaaFSame
import Derived.Lib.SlBytesConst
set_option linter.unusedVariables false
set_option linter.unusedSimpArgs false
namespace Go.Proofs.Ytmhgphbafiilnaa
open Go.RowKit Go.Shelf
theorem fr_a : frameL [97] = [0, 1, 220, 239, 185, 157, 97] := by decide +kernel
theorem scans_one {L : List Int} (h : RecL L) : Scans (frameL L) [L] [] := ⟨by simp, fun M hM => by rw [List.mem_singleton.1 hM]; exact h, .inl rfl⟩
theorem Own8.num {base : Nat} {w : World} {a : Option Addr} {n c : Nat} {xs : List Int} (h : Own8 base w (.slice a n c) xs) (hx : xs ≠ []) : ∃ g, a = some ⟨g, 0, none⟩ ∧ ∀ (j : Nat) x, xs[j]? = some x → w.cell? ⟨g, j, none⟩ = some (.int .u8 x) := by
  rcases h.bys.2 with ⟨e, _⟩ | ⟨b, off, cap, e, hb, hc⟩
  · exact absurd e hx
  · cases e
    rcases h.2.2 with ⟨e, _⟩ | ⟨g, cap, cur, e, _⟩
    · cases e
    · cases e
      refine ⟨b, rfl, fun j x hj => ?_⟩
      obtain ⟨h1, h2⟩ := List.getElem?_eq_some_iff.1 hj
      have := hc j h1
      rw [Nat.zero_add] at this
      rw [this]
      simp [List.getD, h1, h2]
/-- Put behind nothing. -/
theorem put_nil (b : Option Addr) (m d : Nat) (L : List Int) (w : World) (hJ : Bys8 w.heap.size w (.slice b m d) L) (hL : RecL L) : Calls Try.prog 11 #[.slice none 0 0, .slice b m d] w (Gives (frameL L) w) := by
  have := put_yes none 0 0 [] b m d L w (bys8_nil _ _ _ _) hJ hL (by simp)
  rwa [List.nil_append] at this
set_option maxRecDepth 100000 in
set_option maxHeartbeats 1000000 in
theorem alive_any (w : World) : Calls Try.prog 17 #[] w fun e w' => e = .returned (.bool true) ∧ Below w.heap.size w w' := by
  have hcv := fun (w : World) (C : Array Value) (n c : Nat) => Lib.run_convert_bytes_const (P := Try.prog) w 23 5 C n c Try.underlying23 Try.underlying5
  go_enter Try.func17, Try.ntmps17
  go_wp2_with fail
  have hp := put_nil (some ⟨w.heap.size, 0, none⟩) 1 1 [97] _ (bys8_alloc (T := 5) w [97] (by simp) #[.int .u8 97] rfl 1 1 rfl (1, 2)) ⟨by simp, by simp⟩
  unfold Gives at hp
  rw [fr_a] at hp
  simp only [List.length_cons, List.length_nil, Nat.zero_add, Nat.reduceAdd] at hp
  refine hp.mono ?_
  rintro e w2 ⟨a2, c2, rfl, hO2, hB2⟩
  have hw := why_any a2 7 c2 _ [[97]] [] w2 hO2.bys hO2.cap (by rw [← fr_a]; exact scans_one ⟨by simp, by simp⟩) (by simp)
  obtain ⟨g, rfl, hc⟩ := hO2.num (by simp)
  have c0 := hc 0 0 rfl
  have c1 := hc 1 1 rfl
  have c6 := hc 6 97 rfl
  have HW := Lib.hid hw
  have hB02 := ((Below.refl _ w).alloc (Nat.le_refl _) (.cells #[.int .u8 97] 5 (1, 2))).trans (hB2.mono (by simp))
  have HB := Lib.hid hB02
  clear hp hw hO2 hc hB2 hB02 hcv
  go_wp2_with (first | (go_at_call 14; refine HW.out.mono ?_; rintro e w3 ⟨rfl, hB3⟩) | fail)
  go_ret
  exact ⟨rfl, HB.out.trans (hB3.mono HB.out.size)⟩
end Go.Proofs.Ytmhgphbafiilnaa
