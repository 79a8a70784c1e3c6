/- The chapter's examples: hashed, alive. -/
import Derived.Test.YthjjlkoddmljbaaDoorSSum
import Derived.Test.YthjjlkoddmljbaaDoorSText
import Derived.Test.YthjjlkoddmljbaaDoorSFast
import Derived.Laws.IdiomStrings
set_option linter.unusedVariables false
namespace Go.Proofs.YthjjlkoddmljbaaDoor
open Go.RowKit Go.Shelf
def strB (s : ByteArray) : List Int := s.data.toList.map fun x => (x.toNat : Int)
theorem strB_length (s : ByteArray) : (strB s).length = s.size := by simp [strB]
theorem strB_bytes (s : ByteArray) : Bytes (strB s) := fun x hx => by
  simp only [strB, List.mem_map] at hx
  obtain ⟨b, _, rfl⟩ := hx
  have := b.toNat_lt
  omega
/-- '[]byte(s)' -/
theorem conv_str (w : World) (s : ByteArray) : ∃ c w', (convert 9 33 (.string s)).run Tryd.prog w = .ok (.slice (some ⟨w.heap.size, 0, none⟩) (strB s).length c) w' ∧ (strB s).length ≤ c ∧ Bys8 w'.heap.size w' (.slice (some ⟨w.heap.size, 0, none⟩) (strB s).length c) (strB s) ∧ Below w.heap.size w w' ∧ w'.heap.size = w.heap.size + 1 := by
  refine ⟨_, _, (run_bytes_of_string w 9 33 5 s Tryd.underlying9 Tryd.underlying33 Tryd.underlying5).trans (by rw [strB_length]), by rw [strB_length]; exact grownCap_ge _ _ _ _, ?_, ((Below.refl _ w).drew).alloc (Nat.le_refl _) _, by simp⟩
  refine ⟨strB_bytes s, .inr ⟨w.heap.size, 0, _, rfl, by simp, fun j hj => ?_⟩⟩
  rw [strB_length] at hj
  have hj' : j < s.data.size := hj
  rw [Nat.zero_add]
  refine (cell_of_row _ w.heap.size j _ _ _ (World.alloc_heap_new w.drew _)).trans ?_
  rw [bytesRow_at s _ j hj']
  rw [show (strB s).getD j 0 = ((s.data[j].toNat : Nat) : Int) by simp only [strB, List.getD, List.getElem?_map, Array.getElem?_toList, Array.getElem?_eq_getElem hj', Option.map_some, Option.getD_some]]
set_option maxHeartbeats 1000000 in
theorem hashed_true (s t : ByteArray) (hs : (strB s).length ≤ 1000000) (ht : strOfNums (texted (sha (strB s))) = t) (w : World) (hT : Tabs w) :
    Calls Tryd.prog 18 #[.string s, .string t] w fun e w' => e = .returned (.bool true) ∧ Below w.heap.size w w' := by
  subst ht
  obtain ⟨c, w1, hcv, hc, hb, hB1, hz⟩ := conv_str w s
  have ho := of_any (some ⟨w.heap.size, 0, none⟩) (strB s) c (by omega) hc w1 (hT.below hT.lt hB1) hb
  have HO := Lib.hid ho
  have HB1 := Lib.hid hB1
  clear ho hb hc hB1 hT hz
  go_enter Tryd.func18, Tryd.ntmps18
  go_wp2_with fail
  refine HO.out.mono ?_
  rintro e w2 ⟨rfl, hB2⟩
  have D2 := HB1.out.trans (hB2.mono HB1.out.size)
  have HD2 := Lib.hid D2
  clear hB2 D2 hcv
  go_wp2_with fail
  refine (text_any _ (sha_bytes _) w2).mono ?_
  rintro e w3 ⟨rfl, hB3⟩
  have D3 := HD2.out.trans (hB3.mono HD2.out.size)
  have HD3 := Lib.hid D3
  clear hB3 D3
  go_wp2
  go_ret
  exact ⟨by simp, HD3.out⟩
theorem str_none : strOfNums (texted (sha (strB ⟨#[]⟩))) = ⟨#[101, 51, 98, 48, 99, 52, 52, 50, 57, 56, 102, 99, 49, 99, 49, 52, 57, 97, 102, 98, 102, 52, 99, 56, 57, 57, 54, 102, 98, 57, 50, 52, 50, 55, 97, 101, 52, 49, 101, 52, 54, 52, 57, 98, 57, 51, 52, 99, 97, 52, 57, 53, 57, 57, 49, 98, 55, 56, 53, 50, 98, 56, 53, 53]⟩ := by
  rw [show strB ⟨#[]⟩ = [] from rfl, text_none]; decide +kernel
theorem str_abc : strOfNums (texted (sha (strB ⟨#[97, 98, 99]⟩))) = ⟨#[98, 97, 55, 56, 49, 54, 98, 102, 56, 102, 48, 49, 99, 102, 101, 97, 52, 49, 52, 49, 52, 48, 100, 101, 53, 100, 97, 101, 50, 50, 50, 51, 98, 48, 48, 51, 54, 49, 97, 51, 57, 54, 49, 55, 55, 97, 57, 99, 98, 52, 49, 48, 102, 102, 54, 49, 102, 50, 48, 48, 49, 53, 97, 100]⟩ := by
  rw [show strB ⟨#[97, 98, 99]⟩ = [97, 98, 99] from rfl, text_abc]; decide +kernel
theorem alive_any (w : World) (hT : Tabs w) :
    Calls Tryd.prog 17 #[] w fun e w' => e = .returned (.bool true) ∧ Below w.heap.size w w' := by
  have h1 := hashed_true _ _ (by decide) str_none w hT
  have H1 := Lib.hid h1
  have HT := Lib.hid hT
  clear h1 hT
  go_enter Tryd.func17, Tryd.ntmps17
  go_wp2_with fail
  refine H1.out.mono ?_
  rintro e w1 ⟨rfl, hB1⟩
  have HB1 := Lib.hid hB1
  clear hB1
  go_wp2_with fail
  refine (hashed_true _ _ (by decide) str_abc w1 (HT.out.below HT.out.lt HB1.out)).mono ?_
  rintro e w2 ⟨rfl, hB2⟩
  have HB2 := Lib.hid hB2
  clear hB2
  go_wp2
  go_ret
  exact ⟨rfl, HB1.out.trans (HB2.out.mono HB1.out.size)⟩
end Go.Proofs.YthjjlkoddmljbaaDoor
