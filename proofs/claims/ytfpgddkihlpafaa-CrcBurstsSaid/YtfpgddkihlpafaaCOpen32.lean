/- open, Open32: what is sealed, without its sum; or that nothing is. -/
import Derived.Test.YtfpgddkihlpafaaCSeal
set_option linter.unusedVariables false
namespace Go.Proofs.Ytfpgddkihlpafaa
open Go.RowKit Go.Shelf
/-- The call returns the bytes zs in memory of its own, and no error; nothing that was there has changed. -/
def Opens32 (zs : List Int) (w : World) (e : Ending) (w' : World) : Prop := ∃ a c, e = .returned (.tuple #[.slice a zs.length c, .int .i64 0]) ∧ Own w.heap.size w' (.slice a zs.length c) zs ∧ Below w.heap.size w w'
def Shuts32 (w : World) (e : Ending) (w' : World) : Prop := e = .returned (.tuple #[.slice none 0 0, .int .i64 30]) ∧ Below w.heap.size w w'
theorem seal32_len (xs : List Int) : (seal32 xs).length = xs.length + 4 := by simp [seal32]
set_option maxRecDepth 100000 in
set_option maxHeartbeats 1000000 in
theorem open32_short (a : Option Addr) (n c : Nat) (w : World) (hn : n < 4) :
    Calls Try.prog 13 #[.slice a n c, .int .i64 4, .func (.func 8) #[] #[]] w (Shuts32 w) := by
  go_enter Try.func13, Try.ntmps13
  go_wp2
  exact bodyPost_ret (v := .tuple #[.slice none 0 0, .int .i64 30]) (by simp [results, Try.results13, go_sem]) rfl ⟨rfl, Below.refl _ _⟩
set_option maxRecDepth 100000 in
set_option maxHeartbeats 1000000 in
theorem open32_no (a : Option Addr) (k c : Nat) (zs : List Int) (w : World) (hI : Bys w.heap.size w (.slice a (k + 4) c) zs) (hlen : zs.length = k + 4) (hcap : k + 4 ≤ c) (hl : zs.length ≤ 400000) (hne : seal32 (zs.take k) ≠ zs) :
    Calls Try.prog 13 #[.slice a (k + 4) c, .int .i64 4, .func (.func 8) #[] #[]] w (Shuts32 w) := by
  have hT := hI.take k (by omega)
  have hs := seal32_any a k c (zs.take k) w hT (by simp; omega)
  have HL := Lib.hid hlen
  have hk : k ≤ 400000 := by omega
  clear hlen
  go_enter Try.func13, Try.ntmps13
  go_wp2_with fail
  refine hs.mono ?_
  rintro e w1 ⟨a1, c1, rfl, hO1, hB1⟩
  have hq := equal_no a1 _ c1 _ a (k + 4) c zs w1 hO1.bys (hI.below hB1) hne
  go_wp2_with fail
  refine hq.mono ?_
  rintro e _ ⟨rfl, rfl⟩
  go_wp2
  exact bodyPost_ret (v := .tuple #[.slice none 0 0, .int .i64 30]) (by simp [results, Try.results13, go_sem]) rfl ⟨rfl, hB1⟩
set_option maxRecDepth 100000 in
set_option maxHeartbeats 1000000 in
theorem open32_yes (a : Option Addr) (c : Nat) (xs : List Int) (w : World) (hI : Bys w.heap.size w (.slice a (xs.length + 4) c) (seal32 xs)) (hcap : xs.length + 4 ≤ c) (hl : xs.length ≤ 400000) :
    Calls Try.prog 13 #[.slice a (xs.length + 4) c, .int .i64 4, .func (.func 8) #[] #[]] w (Opens32 xs w) := by
  have hT := hI.take xs.length (by rw [seal32_len]; omega)
  rw [show (seal32 xs).take xs.length = xs by simp [seal32]] at hT
  have hs := seal32_any a xs.length c xs w hT (by omega)
  go_enter Try.func13, Try.ntmps13
  go_wp2_with fail
  refine hs.mono ?_
  rintro e w1 ⟨a1, c1, rfl, hO1, hB1⟩
  have hq := equal_yes a1 _ c1 _ a (xs.length + 4) c w1 hO1.bys (hI.below hB1)
  have hc := clone_any a xs.length c xs w1 (hT.below hB1) hB1.size (by omega)
  go_wp2_with fail
  refine hq.mono ?_
  rintro e _ ⟨rfl, rfl⟩
  go_wp2_with fail
  refine hc.mono ?_
  rintro e w2 ⟨a2, c2, rfl, hO2, hB2⟩
  go_wp2
  exact bodyPost_ret (v := .tuple #[.slice a2 xs.length c2, .int .i64 0]) (by simp [results, Try.results13, go_sem]) rfl ⟨a2, c2, rfl, hO2.le hB1.size, hB1.trans (hB2.mono hB1.size)⟩
theorem Open32_of {Q : World → Ending → World → Prop} (a : Option Addr) (n c : Nat) (w : World) (h : Calls Try.prog 13 #[.slice a n c, .int .i64 4, .func (.func 8) #[] #[]] w (Q w))
    (hQ : ∀ e w', Q w e w' → ∃ a' n' c' k, e = .returned (.tuple #[.slice a' n' c', .int .i64 k])) :
    Calls Try.prog 9 #[.slice a n c] w (Q w) := by
  go_enter Try.func9, Try.ntmps9
  go_wp2_with fail
  refine h.mono ?_
  rintro e w' hq
  obtain ⟨a', n', c', k, rfl⟩ := hQ e w' hq
  go_wp2
  exact hq
theorem Open32_short (a : Option Addr) (n c : Nat) (w : World) (hn : n < 4) : Calls Try.prog 9 #[.slice a n c] w (Shuts32 w) :=
  Open32_of a n c w (open32_short a n c w hn) fun e w' ⟨h, _⟩ => ⟨none, 0, 0, 30, h⟩
theorem Open32_no (a : Option Addr) (k c : Nat) (zs : List Int) (w : World) (hI : Bys w.heap.size w (.slice a (k + 4) c) zs) (hlen : zs.length = k + 4) (hcap : k + 4 ≤ c) (hl : zs.length ≤ 400000) (hne : seal32 (zs.take k) ≠ zs) :
    Calls Try.prog 9 #[.slice a (k + 4) c] w (Shuts32 w) :=
  Open32_of a _ c w (open32_no a k c zs w hI hlen hcap hl hne) fun e w' ⟨h, _⟩ => ⟨none, 0, 0, 30, h⟩
theorem Open32_yes (a : Option Addr) (c : Nat) (xs : List Int) (w : World) (hI : Bys w.heap.size w (.slice a (xs.length + 4) c) (seal32 xs)) (hcap : xs.length + 4 ≤ c) (hl : xs.length ≤ 400000) :
    Calls Try.prog 9 #[.slice a (xs.length + 4) c] w (Opens32 xs w) :=
  Open32_of a _ c w (open32_yes a c xs w hI hcap hl) fun e w' ⟨a', c', h, _⟩ => ⟨a', xs.length, c', 0, h⟩
end Go.Proofs.Ytfpgddkihlpafaa
