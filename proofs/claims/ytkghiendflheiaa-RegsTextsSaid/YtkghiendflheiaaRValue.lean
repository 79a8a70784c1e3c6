/- Value: the number of registers. -/
import Derived.Test.YtkghiendflheiaaRWords
import Derived.Laws.CopyOwn
set_option linter.unusedVariables false
namespace Go.Proofs.Ytkghiendflheiaa
open Go.RowKit Go.Sort
/-- The eight bytes of the number that registers hold. -/
def vb (ls : List Int) (o : Int) (j : Nat) : Int := if 8 - 2 * ls.length ≤ j then (bytesL ls).getD (pl o (j - (8 - 2 * ls.length)) (2 * ls.length)) 0 else 0
def valL (ls : List Int) (o : Int) : Int := jn (vb ls o) 8
theorem jn_congr {f g : Nat → Int} (h : ∀ j, j < 8 → f j = g j) : ∀ k, k ≤ 8 → jn f k = jn g k := by
  intro k
  induction k with
  | zero => intro _; rfl
  | succ k ih => intro hk; simp only [jn]; rw [ih (by omega), h k (by omega)]
def G (ls : List Int) : Nat → Int := putF (8 - 2 * ls.length) (bytesL ls).toArray (fun _ => 0)
theorem size_bytes (ls : List Int) : (bytesL ls).toArray.size = 2 * ls.length := by simp [bytesL_len]
theorem vb_eq (ls : List Int) (o : Int) (hm : ls.length = 1 ∨ ls.length = 2 ∨ ls.length = 4) (ho : o = 1 ∨ o = 2 ∨ o = 3 ∨ o = 4) (j : Nat) (hj : j < 8) :
    putF (8 - 2 * ls.length) (arr o (tailA ls.length (G ls))) (G ls) j = vb ls o j := by
  rw [arr_pl _ hm _ ho]
  unfold putF vb
  split
  · rename_i hc
    have hlt : j - (8 - 2 * ls.length) < 2 * ls.length := by omega
    have hp := pl_lt o ls.length _ hlt
    have hs := size_bytes ls
    have e : G ls (8 - 2 * ls.length + pl o (j - (8 - 2 * ls.length)) (2 * ls.length)) = (bytesL ls).getD (pl o (j - (8 - 2 * ls.length)) (2 * ls.length)) 0 := by
      unfold G putF
      rw [if_pos (by omega), Nat.add_sub_cancel_left, getElem!_pos _ _ (by rw [hs]; exact hp)]
      have : pl o (j - (8 - 2 * ls.length)) (2 * ls.length) < (bytesL ls).length := by rw [bytesL_len]; exact hp
      simp [List.getD, this]
    rw [← e]
    simp [hlt]
  · rename_i hc
    unfold G putF
    rw [if_neg hc]
theorem oct_splice (ls : List Int) (hm : 2 * ls.length ≤ 8) : (splice (oct (fun _ => 0)).toList (8 - 2 * ls.length) (vals8 (bytesL ls))).toArray = oct (G ls) := by
  apply Array.ext
  · simp [splice, oct, vals8_len, bytesL_len]; omega
  · intro i h1 h2
    have hi : i < 8 := by simpa [oct] using h2
    have hl : (vals8 (bytesL ls)).length = 2 * ls.length := by rw [vals8_len, bytesL_len]
    simp only [List.getElem_toArray, splice]
    by_cases hc : 8 - 2 * ls.length ≤ i
    · rw [List.getElem_append_right (by simp [oct]; omega)]
      rw [List.getElem_append_left (by simp [oct]; rw [hl]; omega)]
      have hs := size_bytes ls
      have : i - (8 - 2 * ls.length) < (bytesL ls).length := by rw [bytesL_len]; omega
      simp [oct, G, putF, vals8, this, Nat.min_eq_left, show 8 - 2 * ls.length ≤ 8 by omega]
      intro h; omega
    · rw [List.getElem_append_left (by simp [oct]; omega)]
      simp [oct, G, putF]
      intro h; omega
def Num (n k : Int) (w : World) (e : Ending) (w' : World) : Prop := e = .returned (.tuple #[.int .u64 n, .int .i64 k]) ∧ Below w.heap.size w w'
theorem value_no1 (a : Option Addr) (n c : Nat) (o : Int) (h : lenB n = false) (w : World) : Calls Try.prog 14 #[.slice a n c, .int .i64 o] w (Num 0 20 w) := by
  have hn := isLength_no n h w
  clear h
  go_enter Try.func14, Try.ntmps14
  go_wp2_with fail
  refine hn.mono ?_
  rintro e _ ⟨rfl, rfl⟩
  go_wp2
  exact bodyPost_ret (v := .tuple #[.int .u64 0, .int .i64 20]) (by simp [results, Try.results14, go_sem]) rfl ⟨rfl, Below.refl _ _⟩
theorem value_no2 (a : Option Addr) (n c : Nat) (o : Int) (h : lenB n = true) (ho : o < 1 ∨ 4 < o) (w : World) : Calls Try.prog 14 #[.slice a n c, .int .i64 o] w (Num 0 20 w) := by
  have hn := isLength_yes n h w
  have hno := isOrder_no o ho w
  clear h
  go_enter Try.func14, Try.ntmps14
  go_wp2_with fail
  refine hn.mono ?_
  rintro e _ ⟨rfl, rfl⟩
  go_wp2_with fail
  refine hno.mono ?_
  rintro e _ ⟨rfl, rfl⟩
  go_wp2
  exact bodyPost_ret (v := .tuple #[.int .u64 0, .int .i64 20]) (by simp [results, Try.results14, go_sem]) rfl ⟨rfl, Below.refl _ _⟩
theorem G_bd (ls : List Int) (h : ∀ x ∈ bytesL ls, 0 ≤ x ∧ x < 256) (hm : 2 * ls.length ≤ 8) : ∀ j, j < 8 → 0 ≤ G ls j ∧ G ls j < 256 := by
  intro j hj
  unfold G putF
  split
  · have hs := size_bytes ls
    rw [getElem!_pos _ _ (by rw [hs]; omega)]
    exact h _ (by simp)
  · show 0 ≤ (0 : Int) ∧ (0 : Int) < 256; omega
theorem byte_size : (Try.prog.info? 5).map (·.size) = some 1 := by
  obtain ⟨i, hi, _, hs, _⟩ := parts8
  rw [hi]; simp [hs]
set_option maxRecDepth 100000 in
set_option maxHeartbeats 1000000 in
theorem value_yes (a : Option Addr) (n c : Nat) (ls : List Int) (o : Int) (hm : n = 1 ∨ n = 2 ∨ n = 4) (ho : o = 1 ∨ o = 2 ∨ o = 3 ∨ o = 4) (w : World) (hI : Bys16 w.heap.size w (.slice a n c) ls) :
    Calls Try.prog 14 #[.slice a n c, .int .i64 o] w (Num (valL ls o) 0 w) := by
  obtain ⟨a', c', e⟩ := hI.is
  cases e
  have hn := isLength_yes ls.length (by unfold lenB; rcases hm with h | h | h <;> rw [h] <;> rfl) w
  have hor := isOrder_yes o ho w
  have hm8 : 2 * ls.length ≤ 8 := by omega
  have hsl := fun g => slice_oct g ls.length (by omega) hm8
  have hoff : (8 : Int) - 2 * (ls.length : Int) = ((8 - 2 * ls.length : Nat) : Int) := by omega
  have HO := Lib.hid ho
  have HM := Lib.hid hm
  clear ho hm
  go_enter Try.func14, Try.ntmps14
  go_wp2_with fail
  refine hn.mono ?_
  rintro e _ ⟨rfl, rfl⟩
  go_wp2_with fail
  refine hor.mono ?_
  rintro e _ ⟨rfl, rfl⟩
  have hal : Below w.heap.size w (w.alloc (.cells (oct (fun _ => 0)) 54)) := (Below.refl _ _).alloc (Nat.le_refl _) _
  have hA0 : At 54 (w.alloc (.cells (oct (fun _ => 0)) 54)) w.heap.size (oct (fun _ => 0)) := At.new _ _ _
  have hby := bytes_any a ls.length c ls (by omega) _ ((hI.below hal).mono hal.size)
  go_wp2_with fail
  refine hby.mono ?_
  rintro e w2 ⟨a2, c2, rfl, hO2, hB2⟩
  have hA2 := hA0.below (by simp) hB2
  have h2 := hal.trans (hB2.mono hal.size)
  have hsplice := oct_splice ls hm8
  have hlen : (vals8 (bytesL ls)).length = 2 * ls.length := by rw [vals8_len, bytesL_len]
  obtain ⟨cs, hcs⟩ : ∃ cs, vals8 (bytesL ls) = cs := ⟨_, rfl⟩
  have h1c := vals8_one (bytesL ls)
  have hsrc : 0 < cs.length → ∃ ad, a2 = some ad ∧ ∀ j v, cs[j]? = some v → w2.cell? (ad.add j) = some v := by
    intro hp
    rcases hO2.2.2 with ⟨e, h0⟩ | ⟨g, cap, cur, e, hg, hb, hn', hm', hs, ht⟩
    · rw [bytesL_len] at h0
      rw [← hcs, hlen] at hp
      omega
    · injection e with ea el ec
      subst ea
      refine ⟨_, rfl, fun j v hv => ?_⟩
      rw [hcs] at ht
      have hj : j < cs.length := (List.getElem?_eq_some_iff.1 hv).1
      have hplain : (⟨g, 0, none⟩ : Addr).add j = ⟨g, j, none⟩ := by unfold Addr.add; split <;> simp_all
      rw [hplain]
      rw [← ht, Nat.mul_one, List.getElem?_take_of_lt (by rw [← hcs, hlen] at hj; rw [bytesL_len]; exact hj)] at hv
      simp only [World.cell?, hb]
      simpa using hv
  rw [hcs] at hlen h1c hsplice
  have HS := Lib.hid hsplice
  have HL := Lib.hid hlen
  have H1 := Lib.hid h1c
  have HR := Lib.hid hsrc
  have HC := Lib.hid hcs
  clear hsplice hlen h1c hsrc hcs
  go_wp2_with (first
    | (refine wpList_copy_splice rfl (.tmp 22) (.tmp 24) 23 23 rfl 5 Try.underlying23 byte_size (some ⟨w.heap.size, 8 - 2 * ls.length, none⟩) a2 (2 * ls.length) (2 * ls.length) (2 * ls.length) c2 rfl rfl w.heap.size (8 - 2 * ls.length) (oct (fun _ => 0)).toList 54 (by exact hA2) cs (by rw [HL.out]; simp) (fun hp => ⟨rfl, HR.out hp⟩) (by rw [HL.out]; simp [oct]; omega) H1.out w.heap.size w2 (Below.refl _ _) (Nat.le_refl _) ?_
       intro w3 HG hB3)
    | fail)
  have hA3 : At 54 w3 w.heap.size (oct (G ls)) := by
    have := HG.out
    rw [HS.out] at this
    exact this
  have h3 := h2.trans hB3
  have har := arrange_tail o HO.out ls.length w.heap.size (2 * ls.length) hm8 (G ls) w3 hA3
  go_wp2_with fail
  refine har.mono ?_
  rintro e w4 ⟨rfl, hA4, hB4⟩
  have h4 := h3.trans hB4
  have hGb := G_bd ls hO2.1 hm8
  have hFb := putF_bd ls.length HM.out o HO.out (G ls) (G ls) hGb hGb
  have e4 : oct (putF (8 - 2 * ls.length) (arr o (tailA ls.length (G ls))) (G ls)) = oct (vb ls o) := oct_congr (fun j hj => vb_eq ls o HM.out HO.out j hj)
  have hjn := join_any (vb ls o) (fun j hj => by rw [← vb_eq ls o HM.out HO.out j hj]; have := hFb j hj; omega) w4
  rw [e4] at hA4
  have HA4 := Lib.hid hA4
  clear hA4 e4 hGb hFb
  go_wp2_with (refine load_oct HA4.out rfl rfl rfl ?_)
  refine hjn.mono ?_
  rintro e w5 ⟨rfl, hB5⟩
  go_wp2
  exact bodyPost_ret (v := .tuple #[.int .u64 (jn (vb ls o) 8), .int .i64 0]) (by simp [results, Try.results14, go_sem]) rfl ⟨rfl, h4.trans (hB5.mono h4.size)⟩
end Go.Proofs.Ytkghiendflheiaa
