/- JSb JConcat JWrite JBx JSeq JLogW JStep JCom JStored JStore JCommit JCalm JSt JAlive JRoom JRoomW, as one text. -/
import Derived.Test.YtpcbolmidnoaiaaJApp
import Derived.Laws.Shifts
import Derived.Test.YtpcbolmidnoaiaaJCalls
import Derived.Lib.AppendZeros
import Derived.Test.YtpcbolmidnoaiaaDWrite
import Derived.Test.YtpcbolmidnoaiaaFBrk
import Derived.Test.YtpcbolmidnoaiaaFIter
import Derived.Test.YtpcbolmidnoaiaaJLog
import Derived.Test.YtpcbolmidnoaiaaDPut
import Derived.Test.YtpcbolmidnoaiaaDFlush
import Derived.Test.YtpcbolmidnoaiaaJOpen
import Derived.Test.YtpcbolmidnoaiaaFSame
import Derived.Lib.SlBytesConst
import Derived.Test.YtpcbolmidnoaiaaFOpen
/- put, superblockOf, next. -/
set_option linter.unusedVariables false
set_option linter.unusedSimpArgs false
namespace Go.Proofs.Ytpcbolmidnoaiaa
open Go.RowKit Go.Shelf
/-- The last k of the eight bytes from a on state word. -/
def putK (L : List Int) (a word : Nat) : Nat → List Int
  | 0 => L
  | k + 1 => (putK L a word k).set (a + (7 - k)) ((word / 256 ^ k % 256 : Nat) : Int)
theorem putK_len (L : List Int) (a word : Nat) : ∀ k, (putK L a word k).length = L.length
  | 0 => rfl
  | k + 1 => by unfold putK; rw [List.length_set, putK_len L a word k]
theorem putK_get (L : List Int) (a word : Nat) (ha : a + 8 ≤ L.length) : ∀ k, k ≤ 8 → ∀ j, (putK L a word k).getD j 0 = if a + 8 - k ≤ j ∧ j < a + 8 then ((word / 256 ^ (a + 7 - j) % 256 : Nat) : Int) else L.getD j 0
  | 0, _, j => by rw [if_neg (by omega)]; rfl
  | k + 1, hk, j => by
    have ih := putK_get L a word ha k (by omega) j
    have hlen := putK_len L a word k
    unfold putK
    by_cases e : a + (7 - k) = j
    · rw [if_pos (by omega), show a + 7 - j = k by omega]
      simp only [List.getD]
      rw [List.getElem?_set, if_pos e, if_pos (by omega)]
      rfl
    · have : ((putK L a word k).set (a + (7 - k)) ((word / 256 ^ k % 256 : Nat) : Int)).getD j 0 = (putK L a word k).getD j 0 := by
        simp only [List.getD]
        rw [List.getElem?_set, if_neg e]
      rw [this, ih]
      by_cases h1 : a + 8 - k ≤ j ∧ j < a + 8
      · rw [if_pos h1, if_pos (by omega)]
      · rw [if_neg h1, if_neg (by omega)]
theorem putK_sec {L : List Int} (h : Sec L) (a word : Nat) : ∀ k, Sec (putK L a word k)
  | 0 => h
  | k + 1 => by
    have ih := putK_sec h a word k
    refine ⟨by rw [putK_len]; exact h.1, fun x hx => ?_⟩
    unfold putK at hx
    rcases List.mem_or_eq_of_mem_set hx with q | q
    · exact ih.2 x q
    · rw [q]; omega
/-- A number that stands in eight bytes is read. -/
theorem word_read (M : List Int) (a word : Nat) (hw : word < 18446744073709551616) (h : ∀ j, j < 8 → M.getD (a + j) 0 = ((word / 256 ^ (7 - j) % 256 : Nat) : Int)) : wordN M a = word := by
  have key : ∀ k, k ≤ 8 → part8 M a k = word / 256 ^ (8 - k) := by
    intro k
    induction k with
    | zero => intro _; show 0 = word / 256 ^ 8; omega
    | succ k ih =>
      intro hk
      show part8 M a k * 256 + (M.getD (a + k) 0).toNat = _
      rw [ih (by omega), h k (by omega), Int.toNat_natCast, show 8 - k = (7 - k) + 1 by omega, Nat.pow_succ, ← Nat.div_div_eq_div_mul, show 8 - (k + 1) = 7 - k by omega]
      omega
  have := key 8 (Nat.le_refl _)
  unfold wordN
  rw [this]
  simp
def zeros128 : List Int := List.replicate 128 0
theorem zeros_get (j : Nat) : zeros128.getD j 0 = 0 := by
  unfold zeros128
  rw [List.getD_eq_getElem?_getD, List.getElem?_replicate]
  split <;> rfl
theorem zeros_sec : Sec zeros128 := ⟨by simp [zeros128], fun x hx => by rw [List.eq_of_mem_replicate hx]; omega⟩
/-- A superblock's bytes. -/
def sbL (num fin : Nat) : List Int := putK (putK (putK zeros128 0 num 8) 8 fin 8) 120 num 8
theorem sbL_sec (num fin : Nat) : Sec (sbL num fin) := putK_sec (putK_sec (putK_sec zeros_sec 0 num 8) 8 fin 8) 120 num 8
theorem sbL_get (num fin : Nat) (j : Nat) : (sbL num fin).getD j 0 = if 120 ≤ j ∧ j < 128 then ((num / 256 ^ (127 - j) % 256 : Nat) : Int) else if 8 ≤ j ∧ j < 16 then ((fin / 256 ^ (15 - j) % 256 : Nat) : Int) else if j < 8 then ((num / 256 ^ (7 - j) % 256 : Nat) : Int) else 0 := by
  have l0 : zeros128.length = 128 := by simp [zeros128]
  have l1 : (putK zeros128 0 num 8).length = 128 := by rw [putK_len, l0]
  have l2 : (putK (putK zeros128 0 num 8) 8 fin 8).length = 128 := by rw [putK_len, l1]
  unfold sbL
  rw [putK_get _ 120 num (by omega) 8 (Nat.le_refl _) j]
  by_cases h1 : 120 ≤ j ∧ j < 128
  · rw [if_pos (by omega), if_pos h1]
  · rw [if_neg (by omega), if_neg h1, putK_get _ 8 fin (by omega) 8 (Nat.le_refl _) j]
    by_cases h2 : 8 ≤ j ∧ j < 16
    · rw [if_pos (by omega), if_pos h2]
    · rw [if_neg (by omega), if_neg h2, putK_get _ 0 num (by omega) 8 (Nat.le_refl _) j]
      by_cases h3 : j < 8
      · rw [if_pos (by omega), if_pos h3, Nat.zero_add]
      · rw [if_neg (by omega), if_neg h3]
        exact zeros_get j
theorem sbL_words {num fin : Nat} (h1 : num < 18446744073709551616) (h2 : fin < 18446744073709551616) : wordN (sbL num fin) 0 = num ∧ wordN (sbL num fin) 120 = num ∧ wordN (sbL num fin) 8 = fin := by
  refine ⟨word_read _ 0 num h1 fun j hj => ?_, word_read _ 120 num h1 fun j hj => ?_, word_read _ 8 fin h2 fun j hj => ?_⟩
  · rw [sbL_get, if_neg (by omega), if_neg (by omega), if_pos (by omega), Nat.zero_add]
  · rw [sbL_get, if_pos (by omega), show 127 - (120 + j) = 7 - j by omega]
  · rw [sbL_get, if_neg (by omega), if_pos (by omega), show 15 - (8 + j) = 7 - j by omega]
def PutE (w w' : World) (b : Nat) (L : List Int) (e : Ending) : Prop := (∃ v, e = .returned v) ∧ At 56 w' b (vals8 L).toArray ∧ Upd (fun k => k = b) w w'
theorem vals8_set (L : List Int) (j : Nat) (x : Int) : (vals8 L).set j (.int .u8 x) = vals8 (L.set j x) := by unfold vals8; rw [List.map_set]
set_option maxRecDepth 100000 in
set_option maxHeartbeats 1000000 in
theorem put_0 (b : Nat) (L : List Int) (hL : Sec L) (word : Nat) (hw : word < 18446744073709551616) (w : World) (h : At 56 w b (vals8 L).toArray) :
    Calls Try.prog 71 #[ptr b, .int .i64 0, .int .u64 (word : Nat)] w fun e w' => PutE w w' b (putK L 0 word 8) e := by
  have H := Lib.hid h
  have HL := Lib.hid (And.intro hL hw)
  have c00 : w.cell? ⟨b, 0, none⟩ = some (.int .u8 (L.getD 0 0)) := by rw [h.cell]; simpa using vals8_get L 0 (by rw [hL.1]; decide)
  clear h hL hw
  go_enter Try.func71, Try.ntmps71
  go_wp2_with fail
  go_loopw [2, 6] (fun v i wr => ∃ k : Nat, k ≤ 8 ∧ i = .int .i64 (7 - (k : Int)) ∧ v = .int .u64 ((word / 256 ^ k : Nat) : Int) ∧ At 56 wr b (vals8 (putK L 0 word k)).toArray ∧ Upd (fun k => k = b) w wr) (fun _ i _ => (intOf i + 1).toNat)
  case atStart => exact ⟨0, by omega, rfl, by simp, H.out, Upd.refl _ _⟩
  case round =>
    obtain ⟨k, hk, rfl, rfl, hat, hU⟩ := hrel
    by_cases hlt : k < 8
    · obtain ⟨m, hm⟩ : ∃ m, 7 - k = m := ⟨_, rfl⟩
      have hmi : (7 : Int) - (k : Int) = (m : Int) := by omega
      rw [hmi]
      have i1 : (0 : Int) ≤ (m : Int) := by omega
      have hsec := putK_sec HL.out.1 0 word k
      have hlen : (putK L 0 word k).length = 128 := hsec.1
      have hc : wr.cell? ⟨b, m, none⟩ = some (.int .u8 ((putK L 0 word k).getD (0 + m) 0)) := by
        rw [hat.cell]; simpa using vals8_get (putK L 0 word k) (0 + m) (by omega)
      have hf := hat.free (m)
      have hi3 : (0 : Int) + (m : Int) < 128 := by omega
      have wj : wrap64 ((0 : Int) + (m : Int)) = ((0 + m : Nat) : Int) := by unfold wrap64; omega
      have wd : wrap64 ((m : Int) - 1) = (m : Int) - 1 := by unfold wrap64; omega
      obtain ⟨W, hW⟩ : ∃ W, word / 256 ^ k = W := ⟨_, rfl⟩
      have hW2 : word / 256 ^ (k + 1) = W / 256 := by rw [Nat.pow_succ, ← Nat.div_div_eq_div_mul, hW]
      have hWl : W < 18446744073709551616 := by rw [← hW]; exact Nat.lt_of_le_of_lt (Nat.div_le_self _ _) HL.out.2
      obtain ⟨V, hV⟩ : ∃ V, W / 256 = V := ⟨_, rfl⟩
      have hs8 : ((W : Nat) : Int) / 256 = (V : Int) := by omega
      have hnx := hat.set (0 + m) (.int .u8 ((W % 256 : Nat) : Int))
      have HREL := Lib.hid (show At 56 (wr.setCell ⟨b, 0 + m, none⟩ (.int .u8 ((W % 256 : Nat) : Int))) b (vals8 (putK L 0 word (k + 1))).toArray ∧ Upd (fun k => k = b) w (wr.setCell ⟨b, 0 + m, none⟩ (.int .u8 ((W % 256 : Nat) : Int))) from
        ⟨by
          have e : putK L 0 word (k + 1) = (putK L 0 word k).set (0 + m) ((W % 256 : Nat) : Int) := by show (putK L 0 word k).set (0 + (7 - k)) _ = _; rw [hm, hW]
          rw [e, ← vals8_set]
          simpa using hnx, hU.setCell (p := ⟨b, 0 + m, none⟩) (.inl rfl) _⟩)
      have HK := Lib.hid (And.intro hlt (And.intro hm (And.intro hW2 hV)))
      have hb8 : ((W % 256 : Nat) : Int) = (W : Int) % 256 := by omega
      rw [Nat.zero_add] at HREL
      rw [hb8] at HREL
      rw [hW]
      clear hk hat hU hlt hm hmi hsec hlen hW hW2 hWl hV hnx hb8 c00
      go_wp2_with fail
      go_roundw
      case rel =>
        have h9 := HK.out
        exact ⟨k + 1, h9.1, by first | (rw [wd]; congr 1; omega) | (congr 1; omega), by first | (rw [hs8, h9.2.2.1, h9.2.2.2]) | (rw [h9.2.2.1, h9.2.2.2]), HREL.out.1, HREL.out.2⟩
      case measure => first | (clear wj wd; show ((m : Int) - 1 + 1).toNat < ((m : Int) + 1).toNat; omega) | (rw [wd]; clear wj wd; show ((m : Int) - 1 + 1).toNat < ((m : Int) + 1).toNat; omega)
    · have hk8 : k = 8 := by omega
      subst hk8
      have HX := Lib.hid (And.intro hat hU)
      clear hat hU hk hlt c00
      go_wp2_with fail
      first
        | (go_end0; exact ⟨⟨_, rfl⟩, HX.out.1, HX.out.2⟩)
        | exact ⟨_, results_none rfl _ _ _, ⟨_, rfl⟩, HX.out.1, HX.out.2⟩
set_option maxRecDepth 100000 in
set_option maxHeartbeats 1000000 in
theorem put_8 (b : Nat) (L : List Int) (hL : Sec L) (word : Nat) (hw : word < 18446744073709551616) (w : World) (h : At 56 w b (vals8 L).toArray) :
    Calls Try.prog 71 #[ptr b, .int .i64 8, .int .u64 (word : Nat)] w fun e w' => PutE w w' b (putK L 8 word 8) e := by
  have H := Lib.hid h
  have HL := Lib.hid (And.intro hL hw)
  have c00 : w.cell? ⟨b, 0, none⟩ = some (.int .u8 (L.getD 0 0)) := by rw [h.cell]; simpa using vals8_get L 0 (by rw [hL.1]; decide)
  clear h hL hw
  go_enter Try.func71, Try.ntmps71
  go_wp2_with fail
  go_loopw [2, 6] (fun v i wr => ∃ k : Nat, k ≤ 8 ∧ i = .int .i64 (7 - (k : Int)) ∧ v = .int .u64 ((word / 256 ^ k : Nat) : Int) ∧ At 56 wr b (vals8 (putK L 8 word k)).toArray ∧ Upd (fun k => k = b) w wr) (fun _ i _ => (intOf i + 1).toNat)
  case atStart => exact ⟨0, by omega, rfl, by simp, H.out, Upd.refl _ _⟩
  case round =>
    obtain ⟨k, hk, rfl, rfl, hat, hU⟩ := hrel
    by_cases hlt : k < 8
    · obtain ⟨m, hm⟩ : ∃ m, 7 - k = m := ⟨_, rfl⟩
      have hmi : (7 : Int) - (k : Int) = (m : Int) := by omega
      rw [hmi]
      have i1 : (0 : Int) ≤ (m : Int) := by omega
      have hsec := putK_sec HL.out.1 8 word k
      have hlen : (putK L 8 word k).length = 128 := hsec.1
      have hc : wr.cell? ⟨b, 8 + m, none⟩ = some (.int .u8 ((putK L 8 word k).getD (8 + m) 0)) := by
        rw [hat.cell]; simpa using vals8_get (putK L 8 word k) (8 + m) (by omega)
      have hf := hat.free (8 + m)
      have hi3 : (8 : Int) + (m : Int) < 128 := by omega
      have wj : wrap64 ((8 : Int) + (m : Int)) = ((8 + m : Nat) : Int) := by unfold wrap64; omega
      have wd : wrap64 ((m : Int) - 1) = (m : Int) - 1 := by unfold wrap64; omega
      obtain ⟨W, hW⟩ : ∃ W, word / 256 ^ k = W := ⟨_, rfl⟩
      have hW2 : word / 256 ^ (k + 1) = W / 256 := by rw [Nat.pow_succ, ← Nat.div_div_eq_div_mul, hW]
      have hWl : W < 18446744073709551616 := by rw [← hW]; exact Nat.lt_of_le_of_lt (Nat.div_le_self _ _) HL.out.2
      obtain ⟨V, hV⟩ : ∃ V, W / 256 = V := ⟨_, rfl⟩
      have hs8 : ((W : Nat) : Int) / 256 = (V : Int) := by omega
      have hnx := hat.set (8 + m) (.int .u8 ((W % 256 : Nat) : Int))
      have HREL := Lib.hid (show At 56 (wr.setCell ⟨b, 8 + m, none⟩ (.int .u8 ((W % 256 : Nat) : Int))) b (vals8 (putK L 8 word (k + 1))).toArray ∧ Upd (fun k => k = b) w (wr.setCell ⟨b, 8 + m, none⟩ (.int .u8 ((W % 256 : Nat) : Int))) from
        ⟨by
          have e : putK L 8 word (k + 1) = (putK L 8 word k).set (8 + m) ((W % 256 : Nat) : Int) := by show (putK L 8 word k).set (8 + (7 - k)) _ = _; rw [hm, hW]
          rw [e, ← vals8_set]
          simpa using hnx, hU.setCell (p := ⟨b, 8 + m, none⟩) (.inl rfl) _⟩)
      have HK := Lib.hid (And.intro hlt (And.intro hm (And.intro hW2 hV)))
      have hb8 : ((W % 256 : Nat) : Int) = (W : Int) % 256 := by omega
      skip
      rw [hb8] at HREL
      rw [hW]
      clear hk hat hU hlt hm hmi hsec hlen hW hW2 hWl hV hnx hb8 c00
      go_wp2_with fail
      go_roundw
      case rel =>
        have h9 := HK.out
        exact ⟨k + 1, h9.1, by first | (rw [wd]; congr 1; omega) | (congr 1; omega), by first | (rw [hs8, h9.2.2.1, h9.2.2.2]) | (rw [h9.2.2.1, h9.2.2.2]), HREL.out.1, HREL.out.2⟩
      case measure => first | (clear wj wd; show ((m : Int) - 1 + 1).toNat < ((m : Int) + 1).toNat; omega) | (rw [wd]; clear wj wd; show ((m : Int) - 1 + 1).toNat < ((m : Int) + 1).toNat; omega)
    · have hk8 : k = 8 := by omega
      subst hk8
      have HX := Lib.hid (And.intro hat hU)
      clear hat hU hk hlt c00
      go_wp2_with fail
      first
        | (go_end0; exact ⟨⟨_, rfl⟩, HX.out.1, HX.out.2⟩)
        | exact ⟨_, results_none rfl _ _ _, ⟨_, rfl⟩, HX.out.1, HX.out.2⟩
set_option maxRecDepth 100000 in
set_option maxHeartbeats 1000000 in
theorem put_120 (b : Nat) (L : List Int) (hL : Sec L) (word : Nat) (hw : word < 18446744073709551616) (w : World) (h : At 56 w b (vals8 L).toArray) :
    Calls Try.prog 71 #[ptr b, .int .i64 120, .int .u64 (word : Nat)] w fun e w' => PutE w w' b (putK L 120 word 8) e := by
  have H := Lib.hid h
  have HL := Lib.hid (And.intro hL hw)
  have c00 : w.cell? ⟨b, 0, none⟩ = some (.int .u8 (L.getD 0 0)) := by rw [h.cell]; simpa using vals8_get L 0 (by rw [hL.1]; decide)
  clear h hL hw
  go_enter Try.func71, Try.ntmps71
  go_wp2_with fail
  go_loopw [2, 6] (fun v i wr => ∃ k : Nat, k ≤ 8 ∧ i = .int .i64 (7 - (k : Int)) ∧ v = .int .u64 ((word / 256 ^ k : Nat) : Int) ∧ At 56 wr b (vals8 (putK L 120 word k)).toArray ∧ Upd (fun k => k = b) w wr) (fun _ i _ => (intOf i + 1).toNat)
  case atStart => exact ⟨0, by omega, rfl, by simp, H.out, Upd.refl _ _⟩
  case round =>
    obtain ⟨k, hk, rfl, rfl, hat, hU⟩ := hrel
    by_cases hlt : k < 8
    · obtain ⟨m, hm⟩ : ∃ m, 7 - k = m := ⟨_, rfl⟩
      have hmi : (7 : Int) - (k : Int) = (m : Int) := by omega
      rw [hmi]
      have i1 : (0 : Int) ≤ (m : Int) := by omega
      have hsec := putK_sec HL.out.1 120 word k
      have hlen : (putK L 120 word k).length = 128 := hsec.1
      have hc : wr.cell? ⟨b, 120 + m, none⟩ = some (.int .u8 ((putK L 120 word k).getD (120 + m) 0)) := by
        rw [hat.cell]; simpa using vals8_get (putK L 120 word k) (120 + m) (by omega)
      have hf := hat.free (120 + m)
      have hi3 : (120 : Int) + (m : Int) < 128 := by omega
      have wj : wrap64 ((120 : Int) + (m : Int)) = ((120 + m : Nat) : Int) := by unfold wrap64; omega
      have wd : wrap64 ((m : Int) - 1) = (m : Int) - 1 := by unfold wrap64; omega
      obtain ⟨W, hW⟩ : ∃ W, word / 256 ^ k = W := ⟨_, rfl⟩
      have hW2 : word / 256 ^ (k + 1) = W / 256 := by rw [Nat.pow_succ, ← Nat.div_div_eq_div_mul, hW]
      have hWl : W < 18446744073709551616 := by rw [← hW]; exact Nat.lt_of_le_of_lt (Nat.div_le_self _ _) HL.out.2
      obtain ⟨V, hV⟩ : ∃ V, W / 256 = V := ⟨_, rfl⟩
      have hs8 : ((W : Nat) : Int) / 256 = (V : Int) := by omega
      have hnx := hat.set (120 + m) (.int .u8 ((W % 256 : Nat) : Int))
      have HREL := Lib.hid (show At 56 (wr.setCell ⟨b, 120 + m, none⟩ (.int .u8 ((W % 256 : Nat) : Int))) b (vals8 (putK L 120 word (k + 1))).toArray ∧ Upd (fun k => k = b) w (wr.setCell ⟨b, 120 + m, none⟩ (.int .u8 ((W % 256 : Nat) : Int))) from
        ⟨by
          have e : putK L 120 word (k + 1) = (putK L 120 word k).set (120 + m) ((W % 256 : Nat) : Int) := by show (putK L 120 word k).set (120 + (7 - k)) _ = _; rw [hm, hW]
          rw [e, ← vals8_set]
          simpa using hnx, hU.setCell (p := ⟨b, 120 + m, none⟩) (.inl rfl) _⟩)
      have HK := Lib.hid (And.intro hlt (And.intro hm (And.intro hW2 hV)))
      have hb8 : ((W % 256 : Nat) : Int) = (W : Int) % 256 := by omega
      skip
      rw [hb8] at HREL
      rw [hW]
      clear hk hat hU hlt hm hmi hsec hlen hW hW2 hWl hV hnx hb8 c00
      go_wp2_with fail
      go_roundw
      case rel =>
        have h9 := HK.out
        exact ⟨k + 1, h9.1, by first | (rw [wd]; congr 1; omega) | (congr 1; omega), by first | (rw [hs8, h9.2.2.1, h9.2.2.2]) | (rw [h9.2.2.1, h9.2.2.2]), HREL.out.1, HREL.out.2⟩
      case measure => first | (clear wj wd; show ((m : Int) - 1 + 1).toNat < ((m : Int) + 1).toNat; omega) | (rw [wd]; clear wj wd; show ((m : Int) - 1 + 1).toNat < ((m : Int) + 1).toNat; omega)
    · have hk8 : k = 8 := by omega
      subst hk8
      have HX := Lib.hid (And.intro hat hU)
      clear hat hU hk hlt c00
      go_wp2_with fail
      first
        | (go_end0; exact ⟨⟨_, rfl⟩, HX.out.1, HX.out.2⟩)
        | exact ⟨_, results_none rfl _ _ _, ⟨_, rfl⟩, HX.out.1, HX.out.2⟩
theorem store_jsec_op {ops : Array Oper} {rest : List Oper} {o : Oper} {a : Act} {w : World} {Q : Exit → Act → World → Prop} {x y : Operand} {T : TypeId} {g : Nat} {L : List Int} {cs : Array Value} (hg : At T w g cs) (hs : cs.size = 128) (hl : L.length = 128)
    (hgd : o.guard = none) (ho : o.op = .store 56 x y) (hx : a.eval x = .pointer (some ⟨g, 0, none⟩)) (hy : a.eval y = .agg (vals8 L).toArray) (hk : wpList Try.prog ops Q rest (a.put o.dst undef) (w.setRow g (vals8 L).toArray)) : wpList Try.prog ops Q (o :: rest) a w :=
  wpList_store_row hgd 56 x y ho g (vals8 L).toArray hx hy _ _ hg (by rw [jsec_size hl]; simp) (by simp [vals8_len, hl, hs]) (vals8_all L) hk
theorem zeros_nums : (vals8 zeros128).toArray = nums .u8 128 fun _ => 0 := by kernel_rfl
def SbE (w w' : World) (num fin : Nat) (e : Ending) : Prop := e = .returned (.agg (vals8 (sbL num fin)).toArray) ∧ Below w.heap.size w w'
set_option maxRecDepth 100000 in
set_option maxHeartbeats 1000000 in
theorem superblock_any (num fin : Nat) (h1 : num < 18446744073709551616) (h2 : fin < 18446744073709551616) (w : World) :
    Calls Try.prog 59 #[.int .u64 (num : Nat), .int .u64 (fin : Nat)] w fun e w' => SbE w w' num fin e := by
  have hz := (zero_of_info jsec_zero).1
  obtain ⟨X, hX⟩ : ∃ X, X = (w.alloc (.cells (nums .u8 128 fun _ => 0) 56)).alloc (.cells (nums .u8 128 fun _ => 0) 56) := ⟨_, rfl⟩
  have hb : Below w.heap.size w X := by rw [hX]; exact ((Below.refl _ w).alloc (Nat.le_refl _) _).alloc (by simp) _
  have a1 : At 56 X w.heap.size (nums .u8 128 fun _ => 0) := by rw [hX]; exact (At.new _ w _).below (B := w.heap.size + 1) (by omega) ((Below.refl _ _).alloc (by simp) _)
  have a2 : At 56 X (w.heap.size + 1) (vals8 zeros128).toArray := by
    rw [zeros_nums, hX]; have := At.new 56 (w.alloc (.cells (nums .u8 128 fun _ => 0) 56)) (nums .u8 128 fun _ => 0); rwa [World.size_alloc] at this
  have H := Lib.hid (And.intro hb (And.intro a1 a2))
  have hsz : (w.alloc (.cells (nums .u8 128 fun _ => 0) 56)).heap.size = w.heap.size + 1 := by simp
  have HW := Lib.hid (And.intro h1 h2)
  have P0 := Lib.hid (put_0 (w.heap.size + 1) zeros128 zeros_sec num h1 X a2)
  rw [hX] at P0
  have HX := Lib.hid hX
  clear hb a1 a2 h1 h2 hX
  go_enter Try.func59, Try.ntmps59
  go_wp2_with (first
    | (go_at_call 71; (with_reducible refine P0.out.mono ?_); rintro e Y1 ⟨⟨v1, rfl⟩, hat1, hu1⟩; rw [← HX.out] at hu1; have H1 := Lib.hid (And.intro hat1 hu1); have P8 := Lib.hid (put_8 (w.heap.size + 1) _ (putK_sec zeros_sec 0 num 8) fin HW.out.2 Y1 hat1); clear hat1 hu1)
    | (go_at_call 71; (with_reducible refine P8.out.mono ?_); rintro e Y2 ⟨⟨v2, rfl⟩, hat2, hu2⟩; have H2 := Lib.hid (And.intro hat2 hu2); have P120 := Lib.hid (put_120 (w.heap.size + 1) _ (putK_sec (putK_sec zeros_sec 0 num 8) 8 fin 8) num HW.out.1 Y2 hat2); clear hat2 hu2)
    | (go_at_call 71; (with_reducible refine P120.out.mono ?_); rintro e Y3 ⟨⟨v3, rfl⟩, hat3, hu3⟩; have H3 := Lib.hid (And.intro (show At 56 Y3 (w.heap.size + 1) (vals8 (sbL num fin)).toArray from hat3) hu3); clear hat3 hu3)
    | (refine wpList_load_mid rfl 56 _ rfl (w.heap.size + 1) 0 rfl (vals8 (sbL num fin)) _ (range_at H3.out.1) Try.underlying56 rfl (jsec_size (sbL_sec num fin).1) ?_)
    | (refine store_jsec_op (((H.out.2.1.upd H1.out.2 (by omega)).upd H2.out.2 (by omega)).upd H3.out.2 (by omega)) (nums_size _ _ _) (sbL_sec num fin).1 rfl rfl rfl rfl ?_)
    | fail)
  have hu : Upd (fun k => k = w.heap.size + 1) X Y3 := (H1.out.2.trans H2.out.2 (fun j e => .inl e)).trans H3.out.2 (fun j e => .inl e)
  have hat : At 56 Y3 w.heap.size (nums .u8 128 fun _ => 0) := H.out.2.1.upd hu (by omega)
  refine bodyPost_ret (results_cell_row rfl _ _ w.heap.size _ _ _ _ rfl hat.row Try.underlying56 rfl (by rw [jsec_size (sbL_sec num fin).1]; simp)) rfl ?_
  exact ⟨rfl, below_row (H.out.1.trans (hu.below (fun j e => by omega) H.out.1.size)) (Nat.le_refl _) _⟩
set_option maxRecDepth 100000 in
theorem next_any (place num top : Nat) (hp : place ≤ 1) (ht : top < 1000) (w : World) :
    Calls Try.prog 52 #[.agg #[.int .i64 (place : Nat), .int .u64 (num : Nat), .int .u64 (top : Nat)]] w fun e w' => e = .returned (.agg #[.int .i64 ((1 - place : Nat) : Int), .int .u64 ((top + 1 : Nat) : Int), .int .u64 ((top + 1 : Nat) : Int)]) ∧ Below w.heap.size w w' := by
  have w1 : wrap64 (1 - (place : Int)) = ((1 - place : Nat) : Int) := by unfold wrap64; omega
  have w2 : IntKind.u64.wrap ((top : Int) + 1) = ((top + 1 : Nat) : Int) := by rw [IntKind.wrap_u64]; omega
  obtain ⟨q, hq⟩ : ∃ q, 1 - place = q := ⟨_, rfl⟩
  obtain ⟨T, hT⟩ : ∃ T, top + 1 = T := ⟨_, rfl⟩
  rw [hq] at w1 ⊢
  rw [hT] at w2 ⊢
  clear hp ht hq hT
  go_enter Try.func52, Try.ntmps52
  go_wp2_with fail
  have hat : At 62 ((w.alloc (.cells #[.int .i64 (place : Nat), .int .u64 (num : Nat), .int .u64 (top : Nat)] 62)).alloc (.cells #[.int .i64 (q : Nat), .int .u64 (T : Nat), .int .u64 (T : Nat)] 62)) (w.heap.size + 1) #[.int .i64 (q : Nat), .int .u64 (T : Nat), .int .u64 (T : Nat)] := by
    have := At.new 62 (w.alloc (.cells #[.int .i64 (place : Nat), .int .u64 (num : Nat), .int .u64 (top : Nat)] 62)) #[.int .i64 (q : Nat), .int .u64 (T : Nat), .int .u64 (T : Nat)]
    rwa [World.size_alloc] at this
  refine bodyPost_ret (results_cell_row rfl _ _ (w.heap.size + 1) _ _ _ _ rfl hat Try.underlying62 rfl head_size) rfl ?_
  exact ⟨rfl, ((Below.refl _ w).alloc (Nat.le_refl _) _).alloc (by simp) _⟩
end Go.Proofs.Ytpcbolmidnoaiaa

/- slices.Grow and Concat of bytes. -/
set_option linter.unusedVariables false
set_option linter.unusedSimpArgs false
namespace Go.Proofs.Ytpcbolmidnoaiaa
open Go.RowKit Go.Shelf
theorem zero8_size (n : Nat) : (Builtin.zeroCells (Value.int .u8 0).cells n).size = n * 1 := by
  simp [Builtin.zeroCells, Value.cells]
set_option maxRecDepth 100000 in
set_option maxHeartbeats 4000000 in
theorem grow8_any (n : Nat) (h1 : 1 ≤ n) (h2 : n ≤ 1000000) (w : World) :
    Calls Try.prog 66 #[.slice none 0 0, .int .i64 n] w fun e w' => (∃ c, e = .returned (.slice (some ⟨w.heap.size, 0, none⟩) 0 c) ∧ Own8 w.heap.size w' (.slice (some ⟨w.heap.size, 0, none⟩) 0 c) []) ∧ Below w.heap.size w w' := by
  obtain ⟨i, hi, hz, hs, hb⟩ := parts8
  have hrz := fun ty => Lib.run_append_nil_zeros (P := Try.prog) w 23 3 ty 5 i _ .i64 .i64 Try.underlying23 Try.underlying3 hi hz n (by omega) (by omega) (by omega) (by rw [hb]; omega)
  have hG : n ≤ grownCap w n 0 5 := grownCap_ge w _ _ _
  have hGm := grownCap_le_maxLen w n 0 5 (by unfold maxLen; omega)
  obtain ⟨G, hGG⟩ : ∃ G, grownCap w n 0 5 = G := ⟨_, rfl⟩
  rw [hGG] at hrz hG hGm
  have hGx := hGm
  unfold maxLen at hGx
  have HOWN : Hid (Own8 w.heap.size (w.drew.alloc (.cells (Builtin.zeroCells (Value.int .u8 0).cells n ++ Builtin.zeroCells (Value.int .u8 0).cells (G - n)) 5)) (.slice (some ⟨w.heap.size, 0, none⟩) 0 G) []) := Lib.hid (by
    refine ⟨by simp, rfl, .inr ⟨w.heap.size, G, _, rfl, Nat.le_refl _, heap_alloc_new w.drew _, Nat.zero_le _, hGm, ?_, rfl⟩⟩
    rw [Array.size_append, zero8_size, zero8_size]
    omega)
  have HB : Hid (Below w.heap.size w (w.drew.alloc (.cells (Builtin.zeroCells (Value.int .u8 0).cells n ++ Builtin.zeroCells (Value.int .u8 0).cells (G - n)) 5))) := Lib.hid ((Below.refl _ w).drew.alloc (Nat.le_refl _) _)
  have g1 : ¬ (n : Int) < 0 := by omega
  have g2 : (0 : Int) < n := by omega
  have gw : wrap64 (n : Int) = n := wrap_nat (by omega)
  clear hi hz hs hb hGm
  go_enter Try.func66, Try.ntmps66
  go_wp2_with (at_builtin; refine Lib.wpList_append_run _ rfl _ _ _ _ rfl _ _ rfl rfl _ _ (hrz _) ?_)
  all_goals
    go_ret
    exact ⟨⟨_, rfl, HOWN.out⟩, HB.out⟩
theorem flat_snoc (ls : List (List Int)) (k : Nat) (hk : k < ls.length) : (ls.take (k + 1)).flatten = (ls.take k).flatten ++ ls.getD k [] := by
  rw [List.take_succ_eq_append_getElem hk, List.flatten_append, show ls.getD k [] = ls[k] by simp [List.getD, hk]]
  simp
theorem flat_take_le : ∀ (ls : List (List Int)) (k : Nat), (ls.take k).flatten.length ≤ ls.flatten.length
  | [], k => by simp
  | L :: ls, 0 => by simp
  | L :: ls, k + 1 => by
    rw [List.take_succ_cons, List.flatten_cons, List.flatten_cons, List.length_append, List.length_append]
    have := flat_take_le ls k
    omega
set_option maxRecDepth 100000 in
set_option maxHeartbeats 4000000 in
theorem concat8_any (sa : Option Addr) (n cap : Nat) (ls : List (List Int)) (hn : ls.length = n) (hn9 : n ≤ 1000) (h1 : 1 ≤ ls.flatten.length) (h2 : ls.flatten.length ≤ 1000000) (w : World) (hA : BssAt w.heap.size w sa ls) :
    Calls Try.prog 51 #[.slice sa n cap] w (Made ls.flatten w) := by
  have HA := Lib.hid hA
  have HN := Lib.hid hn
  obtain ⟨T, hT⟩ : ∃ T, ls.flatten.length = T := ⟨_, rfl⟩
  unfold Made
  rw [hT] at h1 h2 ⊢
  have HLE := Lib.hid (fun j => (show (ls.take j).flatten.length ≤ T by rw [← hT]; exact flat_take_le ls j))
  have HGR := Lib.hid (fun W => grow8_any T h1 h2 W)
  have HT := Lib.hid (And.intro hT (And.intro h2 hn9))
  clear hA hn hT h1 h2 hn9
  go_enter Try.func51, Try.ntmps51
  go_wp2_with fail
  go_loopw [3, 11] (fun u i wr => ∃ (j K : Nat), j ≤ n ∧ i = .int .i64 j ∧ u = .int .i64 K ∧ (ls.take j).flatten.length = K ∧ w = wr) (fun _ i _ => (n - intOf i).toNat)
  case atStart => exact ⟨0, 0, Nat.zero_le _, rfl, rfl, by rw [List.take_zero]; rfl, rfl⟩
  case round =>
    obtain ⟨j, K, hj, rfl, rfl, hK, rfl⟩ := hrel
    have hKT : K ≤ T := by rw [← hK]; exact HLE.out j
    by_cases hlt : j < n
    · have hlti : (j : Int) < n := by omega
      have j0 : (0 : Int) ≤ (j : Int) := by omega
      obtain ⟨b, o, a2, c2, rfl, hb, h0, h1, h2⟩ := HA.out.at j (by rw [HN.out]; exact hlt)
      have hs := congrArg List.length (flat_snoc ls j (by rw [HN.out]; exact hlt))
      rw [List.length_append, hK] at hs
      have hsT : (ls.take (j + 1)).flatten.length ≤ T := HLE.out (j + 1)
      obtain ⟨m, hm⟩ : ∃ m, (ls.getD j []).length = m := ⟨_, rfl⟩
      rw [hm] at h0 hs
      have wk := wrap_succ (k := j) (by have := HT.out; omega)
      have hw9 : K + m ≤ 1000000 := by have := HT.out; omega
      have WK := Lib.hid (show wrap64 ((K : Int) + (m : Int)) = ((K + m : Nat) : Int) by rw [show (K : Int) + (m : Int) = ((K + m : Nat) : Int) by omega]; exact wrap_nat (by omega))
      have gn : ¬ (((K + m : Nat) : Int) < 0) := by omega
      have gn2 : ¬ ((K : Int) + (m : Int) < 0) := by omega
      have HS := Lib.hid hs
      have HJ := Lib.hid hlt
      clear hK hKT hj hlt hb h1 h2 hs hsT hm hw9
      have wkm := WK.out
      go_wp2
      go_roundw
      case rel => exact ⟨j + 1, K + m, HJ.out, by first | rfl | rw [wk], by first | rfl | rw [WK.out] | (congr 1), HS.out, by trivial⟩
      case measure => exact meas_succ HJ.out wk
    · have hje : j = n := by omega
      subst hje
      have hnl : ¬ ((j : Int) < j) := by omega
      obtain rfl : K = T := by rw [← hK, List.take_of_length_le (by have := HN.out; omega), HT.out.1]
      clear hK hKT hj hlt
      go_wp2_with fail
      refine (HGR.out w).mono ?_
      rintro e w1 ⟨⟨c, rfl, hO⟩, hB1⟩
      have HO := Lib.hid hO
      have HB1 := Lib.hid hB1
      clear hO hB1
      go_wp2_with fail
      go_loopw [6, 27] (fun u i wr => ∃ (q k : Nat) (a : Option Addr) (c : Nat), q ≤ j ∧ i = .int .i64 q ∧ u = .slice a k c ∧ (ls.take q).flatten.length = k ∧ Own8 w.heap.size wr (.slice a k c) (ls.take q).flatten ∧ Below w.heap.size w wr) (fun _ i _ => (j - intOf i).toNat)
      case atStart => exact ⟨0, 0, _, c, Nat.zero_le _, rfl, rfl, by rw [List.take_zero]; rfl, by rw [List.take_zero]; exact HO.out, HB1.out⟩
      case round =>
        obtain ⟨q, k, a, c2, hq, rfl, rfl, hk, hO, hb⟩ := hrel
        have hkT : k ≤ K := by rw [← hk]; exact HLE.out q
        by_cases hlt2 : q < j
        · have hlti : (q : Int) < j := by omega
          have q0 : (0 : Int) ≤ (q : Int) := by omega
          obtain ⟨b, o, a3, c3, rfl, hbl, h0, h1, h2⟩ := (HA.out.next hb (Nat.le_refl _)).at q (by rw [HN.out]; exact hlt2)
          have hfs := flat_snoc ls q (by rw [HN.out]; exact hlt2)
          have hsT : (ls.take (q + 1)).flatten.length ≤ K := HLE.out (q + 1)
          obtain ⟨L, hL⟩ : ∃ L, ls.getD q [] = L := ⟨_, rfl⟩
          rw [hL] at h0 h2 hfs
          obtain ⟨m, hm⟩ : ∃ m, L.length = m := ⟨_, rfl⟩
          rw [hm] at h0 h2
          have wk := wrap_succ (k := q) (by have := HT.out; omega)
          have hln : (ls.take (q + 1)).flatten.length = k + m := by rw [hfs, List.length_append, hk, hm]
          have HX := Lib.hid (And.intro hO (And.intro h2 (And.intro hln (And.intro hb (And.intro hfs (show k + m ≤ 1000000 by have := HT.out; omega))))))
          have HQ := Lib.hid hlt2
          have HLN := Lib.hid (show ((ls.take q).flatten ++ L).length = k + m by rw [← hfs]; exact hln)
          clear hk hO hb hkT hlt2 hbl h1 h2 hfs hsT hL hm hln hq HO HB1
          go_wp2_with (first
            | (at_builtin; refine bapp8N rfl _ _ rfl w.heap.size _ (ls.take q).flatten rfl HX.out.1 w.heap.size a3 m c3 L rfl HX.out.2.1 (k + m) HLN.out (by have := HX.out.2.2.2.2.2; omega) HX.out.2.2.2.1.size ?_; intro a4 c4 w4 hO4 hB4; have H4 := Lib.hid (And.intro hO4 (HX.out.2.2.2.1.trans hB4)); clear hO4 hB4)
            | fail)
          go_roundw
          case rel => exact ⟨q + 1, k + m, a4, c4, HQ.out, by first | rfl | rw [wk], by first | rfl | (congr 1), HX.out.2.2.1, by rw [HX.out.2.2.2.2.1]; exact H4.out.1, H4.out.2⟩
          case measure => exact meas_succ HQ.out wk
        · have hqe : q = j := by omega
          subst hqe
          have hnl2 : ¬ ((q : Int) < q) := by omega
          have hall : (ls.take q).flatten = ls.flatten := by rw [List.take_of_length_le (by have := HN.out; omega)]
          obtain rfl : k = K := by rw [← hk, hall, HT.out.1]
          rw [hall] at hO
          have HX := Lib.hid (And.intro hO hb)
          clear hall hO hb hk hkT hlt2 hq
          go_wp2
          go_ret
          exact ⟨a, c2, rfl, HX.out⟩
end Go.Proofs.Ytpcbolmidnoaiaa

/- Journal.write where the cache is not full. -/
set_option linter.unusedVariables false
set_option linter.unusedSimpArgs false
namespace Go.Proofs.Ytpcbolmidnoaiaa
open Go.RowKit Go.Shelf
theorem jslice_all (g : Nat) (w : World) : (Instr.sliceAt 56 (.pointer (some ⟨g, 0, none⟩)) none none none).run Try.prog w = .ok (.slice (some ⟨g, 0, none⟩) 128 128) w := by
  have h := run_sliceAt_array_all (P := Try.prog) w 56 ⟨g, 0, none⟩ (by kernel_rfl)
  have sz : ∀ w, (sizeOf 5).run Try.prog w = .ok 1 w := fun w => by kernel_rfl
  rw [h, show Try.prog.elem 56 = 5 by kernel_rfl, sz, show Try.prog.arrayLen 56 = 128 by kernel_rfl]
  simp [Result.andThen, slicedAt, Addr.add_mid]
/-- The device takes a write of sector n. -/
def WrE (w w' : World) (p : Pl) (d : Dv) (n : Int) (L : List Int) (e : Ending) : Prop := e = .returned (.int .i64 (downE (d.write n L).down)) ∧ ∃ p', DevAt w' p' (d.write n L) ∧ Step p p' w w' ∧ p'.B1 = p.B1 ∧ p'.B2 = p.B2
theorem writeE_up {d : Dv} {n : Int} {L : List Int} (ha : accE d n = 0) (hL : L.length = 128) (hc : d.cache.length < 256) : writeE d n 128 = downE (d.write n L).down ∧ (d.write n L).cache = d.cache ++ [(n, L)] ∧ (d.write n L).safe = d.safe ∧ d.write n L = ({ d with cache := d.cache ++ [(n, L)] } : Dv).counted := by
  have e1 : d.write n L = ({ d with cache := d.cache ++ [(n, L)] } : Dv).counted := by
    unfold Dv.write
    rw [if_neg (fun q => by rcases q with q | q | q; exact q ha; exact q hL; omega)]
  refine ⟨?_, by rw [e1]; rfl, by rw [e1]; rfl, e1⟩
  unfold writeE
  rw [if_neg (fun q => q ha), if_neg (by simp), if_neg (by omega), e1]
  rfl
set_option maxRecDepth 100000 in
set_option maxHeartbeats 1000000 in
theorem jwrite_any (p : Pl) (d : Dv) (jB : Nat) (cs : Array Value) (w : World) (hd : DevAt w p d) (hj : At 72 w jB cs) (h0 : cs[0]? = some (ptr p.D)) (n : Int) (ha : accE d n = 0) (L : List Int) (hL : Sec L) (hc : d.cache.length < 256) (hc9 : d.calls < 4611686018427387904) :
    Calls Try.prog 58 #[ptr jB, .int .i64 n, .agg (vals8 L).toArray] w fun e w' => WrE w w' p d n L e := by
  have hmx : Try.prog.follows .mixedOrders = true := by kernel_rfl
  obtain ⟨e1, e2, e3, e4⟩ := writeE_up ha hL.1 hc
  obtain ⟨X, hX⟩ : ∃ X, X = w.alloc (.cells (vals8 L).toArray 56) := ⟨_, rfl⟩
  have hb : Below w.heap.size w X := by rw [hX]; exact (Below.refl _ w).alloc (Nat.le_refl _) _
  have hat : At 56 X w.heap.size (vals8 L).toArray := by rw [hX]; exact At.new _ w _
  have hbd : Below w.heap.size w X.drew := hb.drew
  have hW := write_up p d X.drew (hd.below hbd) hc9 n ha (some ⟨w.heap.size, 0, none⟩) 128 128 L hL.1 (by omega) (by have h9 := bys_at hat hL.2 128; rw [hL.1] at h9; exact h9) (fun k e q => by have e2 : w.heap.size = k := Option.some.inj e; have := hd.lt _ q; omega)
  rw [← e4] at hW
  have k0 : X.drew.cell? ⟨jB, 0, none⟩ = some (ptr p.D) := by rw [hbd.cell (p := ⟨jB, 0, none⟩) hj.lt, hj.cell]; exact h0
  have HW := Lib.hid (show Calls Try.prog 70 #[ptr p.D, .int .i64 n, .slice (some ⟨w.heap.size, 0, none⟩) 128 128] X.drew fun e w' => WrE w w' p d n L e from hW.mono (fun e w' q => by
    obtain ⟨q1, p', q2, q3, q4, q5⟩ := q
    exact ⟨q1, p', q2, ⟨q3.D, (Upd.of hbd _).trans q3.upd (fun j e => .inl e), fun k hk => (q3.has k hk).elim .inl (fun e => .inr (Nat.le_trans hbd.size e))⟩, q4, q5⟩))
  have HSL := Lib.hid (fun Z => jslice_all w.heap.size Z)
  have q1 : (fun Z : World => Z.cell? ⟨jB, 0, none⟩ = some (ptr p.D)) X.drew := k0
  have HD := Lib.hid (show downE (d.write n L).down = 0 ∨ downE (d.write n L).down = 120 by unfold downE; split <;> simp)
  unfold WrE at HW
  obtain ⟨E, hE⟩ : ∃ E, downE (d.write n L).down = E := ⟨_, rfl⟩
  have HE := Lib.hid hE
  rw [hE] at HW HD
  unfold WrE
  rw [hE]
  have i9 : (E != 122) = true := by rcases HD.out with e | e <;> rw [e] <;> decide
  have HX := Lib.hid hX
  have HNO := Lib.hid (show jB < w.heap.size ∧ ¬ own p jB from ⟨hj.lt, fun ho => by
    obtain ⟨cs', fr', T, h1, h2⟩ := hd.typed jB ho
    unfold At at hj
    rw [hj] at h1
    cases h1
    rcases h2 with e | e | e <;> exact absurd e (by decide)⟩)
  have HNO0 := Lib.hid (show w.cell? ⟨jB, 0, none⟩ = some (ptr p.D) by rw [hj.cell]; exact h0)
  clear hd hj h0 ha hL hc hc9 e1 e2 e3 e4 hb hat hbd hW k0 hE hX
  go_enter Try.func58, Try.ntmps58
  go_wp2_with fail
  rw [← HX.out]
  refine regionL (fun Z : World => Z.cell? ⟨jB, 0, none⟩ = some (ptr p.D)) 7 (by kernel_rfl) ?_
  refine takeL (i := 0) (oi := { dst := some 9, op := Go.Op.move (Go.Operand.tmp 0), type := 31, pos := "journal.go:191", after := #[], guard := none }) (v := ptr jB) [7, 6, 3, 2, 1] rfl (by kernel_rfl) (by kernel_rfl) (by kernel_rfl) (by kernel_rfl) (fun _ _ _ h => calm_panic h) rfl ?_ q1 ?_
  · intro Z hZ; go_simp
  simp only [Act.put, List.setIfInBounds_toArray, List.set_cons_zero, List.set_cons_succ]
  refine takeL (i := 1) (oi := { dst := some 10, op := Go.Op.nilCheck (Go.Operand.tmp 9), type := 0, pos := "journal.go:191", after := #[{ on := 0, ground := Go.Ground.data }], guard := none }) (v := ptr jB) [7, 6, 3, 2] rfl (by kernel_rfl) (by kernel_rfl) (by kernel_rfl) (by kernel_rfl) (fun _ _ _ h => calm_panic h) rfl ?_ q1 ?_
  · intro Z hZ; go_simp
  simp only [Act.put, List.setIfInBounds_toArray, List.set_cons_zero, List.set_cons_succ]
  refine takeL (i := 2) (oi := { dst := some 11, op := Go.Op.fieldAddr 72 (Go.Operand.tmp 10) 0, type := 0, pos := "journal.go:191", after := #[{ on := 1, ground := Go.Ground.data }], guard := none }) (v := ptr jB) [7, 6, 3] rfl (by kernel_rfl) (by kernel_rfl) (by kernel_rfl) (by kernel_rfl) (fun _ _ _ h => calm_panic h) rfl ?_ q1 ?_
  · intro Z hZ; go_simp
  simp only [Act.put, List.setIfInBounds_toArray, List.set_cons_zero, List.set_cons_succ]
  refine takeL (i := 3) (oi := { dst := some 12, op := Go.Op.load 27 (Go.Operand.tmp 11), type := 27, pos := "journal.go:191", after := #[{ on := 2, ground := Go.Ground.data }], guard := none }) (v := ptr p.D) [7, 6] rfl (by kernel_rfl) (by kernel_rfl) (by kernel_rfl) (by kernel_rfl) (fun _ _ _ h => calm_panic h) rfl ?_ q1 ?_
  · intro Z hZ; have z1 := hZ; go_simp
  simp only [Act.put, List.setIfInBounds_toArray, List.set_cons_zero, List.set_cons_succ]
  refine takeL (i := 4) (oi := { dst := some 13, op := Go.Op.move (Go.Operand.tmp 1), type := 3, pos := "journal.go:191", after := #[], guard := none }) (v := .int .i64 n) [7, 6] rfl (by kernel_rfl) (by kernel_rfl) (by kernel_rfl) (by kernel_rfl) (fun _ _ _ h => calm_panic h) rfl ?_ q1 ?_
  · intro Z hZ; go_simp
  simp only [Act.put, List.setIfInBounds_toArray, List.set_cons_zero, List.set_cons_succ]
  refine takeL (i := 5) (oi := { dst := some 14, op := Go.Op.slice 56 (Go.Operand.tmp 5) none none none, type := 23, pos := "journal.go:191", after := #[], guard := none }) (v := .slice (some ⟨w.heap.size, 0, none⟩) 128 128) [7, 6] rfl (by kernel_rfl) (by kernel_rfl) (by kernel_rfl) (by kernel_rfl) (fun _ _ _ h => calm_panic h) rfl ?_ q1 ?_
  · intro Z hZ; have e := HSL.out Z; go_simp
  simp only [Act.put, List.setIfInBounds_toArray, List.set_cons_zero, List.set_cons_succ]
  refine oneL (i := 6) (o := { dst := some 15, op := Go.Op.call { callee := Go.Callee.value (Go.Operand.func 70), args := #[Go.Operand.tmp 12, Go.Operand.tmp 13, Go.Operand.tmp 14], argTypes := #[27, 3, 23] }, type := 28, pos := "journal.go:191", after := #[{ on := 3, ground := Go.Ground.data }, { on := 4, ground := Go.Ground.data }, { on := 5, ground := Go.Ground.data }], guard := none }) rfl (by kernel_rfl) rfl ?_
  refine wp_by_call (f := 70) (args := #[ptr p.D, .int .i64 n, .slice (some ⟨w.heap.size, 0, none⟩) 128 128]) (by go_simp) (HW.out.mono ?_)
  rintro e Z ⟨rfl, hF⟩
  have qF : (fun Z : World => Z.cell? ⟨jB, 0, none⟩ = some (ptr p.D)) Z := by
    obtain ⟨p', _, hs, _⟩ := hF
    exact (World.cell?_of_block (a := ⟨jB, 0, none⟩) (hs.upd.block jB HNO.out.1 HNO.out.2)).trans HNO0.out
  have HF := Lib.hid hF
  clear hF q1
  refine ⟨_, rfl, fun _ => qF, ?_⟩
  simp only [Act.put, List.setIfInBounds_toArray, List.set_cons_zero, List.set_cons_succ]
  refine oneL (i := 7) (o := { dst := some 7, op := Go.Op.assign (Go.Operand.tmp 15), type := 28, pos := "journal.go:191", after := #[{ on := 6, ground := Go.Ground.data }, { on := 6, ground := Go.Ground.chain }, { on := 0, ground := Go.Ground.phase }, { on := 1, ground := Go.Ground.phase }, { on := 2, ground := Go.Ground.phase }, { on := 3, ground := Go.Ground.phase }, { on := 4, ground := Go.Ground.phase }, { on := 5, ground := Go.Ground.phase }, { on := 6, ground := Go.Ground.phase }], guard := none }) rfl (by kernel_rfl) rfl ?_
  refine wp_by_run (w' := Z) (v := .int .i64 E) (by go_simp) ⟨fun h => absurd rfl h, ?_⟩
  simp only [Act.put, List.setIfInBounds_toArray, List.set_cons_zero, List.set_cons_succ]
  refine doneL (by kernel_rfl) (Calm.normal ?_) _
  go_wp2
  go_ret
  exact ⟨rfl, HF.out⟩
end Go.Proofs.Ytpcbolmidnoaiaa

/- A range over a function whose iterator writes to boxes that lay ahead; a round may end by a break. -/
set_option linter.unusedVariables false
namespace Go.Proofs.Ytpcbolmidnoaiaa
open Go.RowKit
/-- An iterator that gives the list xs, and writes to nothing but the blocks of Gs; the rounds write to S alone of what lay there. -/
def SeqBx {α : Type} (n : Nat) (P : Program) (g : Nat) (lb : Array Value) (enc : α → Array Value) (Gs : Nat → Prop) (S : Nat → Prop) (xs : List α) (w : World) : Prop :=
  ∀ (l : Nat) (J Jx : List α → World → Prop) (W : World), Below w.heap.size w W → (∀ pre, SteadyG Gs (J pre)) →
    (∀ pre x W1, pre ++ [x] <+: xs → W.heap.size ≤ W1.heap.size → J pre W1 → YieldAt Fence.wide (n - 1) P l (enc x) W1 fun e W' =>
      (e = .returned (.bool true) ∧ J (pre ++ [x]) W' ∧ Only W.heap.size S W1 W') ∨ (e = .returned (.bool false) ∧ Jx (pre ++ [x]) W')) →
    J [] W → CallsIn Fence.wide n P g (#[.func (.yield l) #[] #[]] ++ lb) W fun e W' => (∃ v, e = .returned v) ∧ (J xs W' ∨ ∃ pre, pre <+: xs ∧ Jx pre W')
theorem wpIn_rangeFunc_bx {α : Type} {n : Nat} {P : Program} {g : Operand} {ps : Array Tmp} {assign body : Code} {Q : Exit → Act → World → Prop} {a : Act} {w : World}
    {gf : Nat} {lb : Array Value} (hg : a.eval g = .func (.func gf) #[] lb) (eg : ∀ args w, (callFunc gf args).run P w = .ok (.enter gf args) w)
    (xs : List α) (enc : α → Array Value) (Gs : Nat → Prop) (hBs : ∀ r, Gs r → r < w.heap.size) (S : Nat → Prop) (id : Nat) (hseq : SeqBx (n - 1) P gf lb enc Gs S xs w) (hps : ∀ x, (enc x).size = ps.size) (hS : ∀ j, S j → j < w.heap.size)
    (I Ix : List α → World → Prop) (hI : ∀ pre, SteadyG (fun r => Gs r ∨ w.heap.size ≤ r ∧ r ≤ w.heap.size + 1) (I pre)) (hIx : ∀ pre, SteadyG (fun r => Gs r ∨ w.heap.size ≤ r ∧ r ≤ w.heap.size + 1) (Ix pre)) (h0 : I [] w)
    (Ax : List α → α → Act → World → Prop) (hAx : ∀ pre x a₁, SteadyG (fun r => Gs r ∨ w.heap.size ≤ r ∧ r ≤ w.heap.size + 1) (Ax pre x a₁))
    (hassign : ∀ (l : Nat) (pre : List α) (x : α) (W : World) (K : Act → World → Prop), w.heap.size + 2 ≤ W.heap.size → pre ++ [x] <+: xs → I pre W → (∀ a₁ W', Only (w.heap.size + 2) S W W' → I pre W' → Ax pre x a₁ W' → K a₁ W') →
      assign.wpIn (Fence.wide.inRound l) (n - 1 - 1) P (Exit.then K (fun _ _ _ => False)) { tmps := (ps.zip (enc x)).foldl (fun t (p, v) => t.setIfInBounds p v) a.tmps, defers := [] } W)
    (hbody : ∀ (l : Nat) (pre : List α) (x : α) (a₁ : Act) (W : World), w.heap.size + 2 ≤ W.heap.size → pre ++ [x] <+: xs → I pre W → Ax pre x a₁ W → body.wpIn (Fence.wide.inRound l) (n - 1 - 1) P (brkPost (w.heap.size + 2) S id (I (pre ++ [x])) (Ix (pre ++ [x])) W) a₁ W)
    (hdone : ∀ (D : Nat) (W : World), D = w.heap.size → I xs W → W.heap[D]? = some (.deferred (some [])) → Q .normal { a with defers := { target := .collected D, args := #[] } :: a.defers } W)
    (hstop : ∀ (D : Nat) (pre : List α) (W : World), D = w.heap.size → pre <+: xs → Ix pre W → W.heap[D]? = some (.deferred (some [])) → (Code.exit id).wpIn Fence.wide n P Q { a with defers := { target := .collected D, args := #[] } :: a.defers } W) :
    (Code.rangeFunc g ps assign body).wpIn Fence.wide n P Q a w := by
  refine wpIn_rangeFunc ?_
  intro fn hfn
  rw [show Fence.wide.round = none from rfl]
  obtain ⟨rec, hrec⟩ : ∃ rec : LoopState → Option Code → Loop, rec = fun st pe => { state := st, pending := pe, fn, tmps := a.tmps, params := ps, assign, body, defers := w.heap.size } := ⟨_, rfl⟩
  obtain ⟨W1, hW1⟩ : ∃ W1, (w.alloc (.deferred (some []))).alloc (.loop (rec .ready none)) = W1 := ⟨_, rfl⟩
  have hs1 : W1.heap.size = w.heap.size + 2 := by rw [← hW1]; simp
  have hL1 : W1.heap[w.heap.size + 1]? = some (.loop (rec .ready none)) := by
    rw [← hW1]; have := World.alloc_heap_new (w.alloc (.deferred (some []))) (.loop (rec .ready none)); rwa [World.size_alloc] at this
  have hK1 : W1.heap[w.heap.size]? = some (.deferred (some [])) := by
    rw [← hW1]; exact (Below.heap_alloc _ _ _ (by simp)).trans (World.alloc_heap_new w _)
  have hb1 : Below w.heap.size w W1 := by
    rw [← hW1]; exact ((Below.refl _ w).alloc (Nat.le_refl _) _).alloc (by simp) _
  have hI1 : I [] W1 := by rw [← hW1]; exact (hI []).alloc ((hI []).alloc h0 _) _
  have hnS : ∀ j, w.heap.size ≤ j → ¬ S j := fun j hj hs => by have := hS j hs; omega
  refine ⟨w.heap.size + 1, [{ target := .collected w.heap.size, args := #[] }], W1, { target := .fn (.func gf) lb, args := #[.func (.yield (w.heap.size + 1)) #[] #[]] }, W1, gf,
    #[.func (.yield (w.heap.size + 1)) #[] #[]] ++ lb, W1, ?_, ?_, ?_, ?_, fun h => (by cases h), ?_⟩
  · rw [← hW1, hrec]; exact run_enterLoop_outer _ _ _ _ _
  · simp only [resolve, hg]
    simp [go_sem]
  · intro f' hf'; exact trivial
  · simp [invoke, go_sem, eg]
  · refine (hseq (w.heap.size + 1)
      (fun pre W => I pre W ∧ W.heap[w.heap.size + 1]? = some (.loop (rec .ready none)) ∧ W.heap[w.heap.size]? = some (.deferred (some [])))
      (fun pre W => Ix pre W ∧ W.heap[w.heap.size + 1]? = some (.loop (rec .done (some (.exit id)))) ∧ W.heap[w.heap.size]? = some (.deferred (some [])))
      W1 hb1 ?_ ?_ ⟨hI1, hL1, hK1⟩).mono ?_
    · intro pre X Y row hs hg' hr
      exact ⟨hI pre X Y row hs.1 hg' (fun r e => .inl (hr r e)),
        (hg'.block _ (Array.getElem?_eq_some_iff.1 hs.2.1).1 (fun e => by have := hBs _ (hr _ e.symm); omega)).trans hs.2.1,
        (hg'.block _ (Array.getElem?_eq_some_iff.1 hs.2.2).1 (fun e => by have := hBs _ (hr _ e.symm); omega)).trans hs.2.2⟩
    · rintro pre x W hpre hsz ⟨hi, hl, hk⟩
      rw [hs1] at hsz ⊢
      have hy := run_yield (P := P) (args := enc x) hl (by rw [hrec]; exact hps x)
      rw [hrec] at hy
      refine ⟨fn, _, assign, body, hy, roundIn_of_wpIn hfn (hassign _ pre x W _ (by omega) hpre hi fun a₁ X hf hx ha => ?_)⟩
      have hlX := (hf.block _ (by omega) (hnS _ (by omega))).trans hl
      have hkX := (hf.block _ (by omega) (hnS _ (by omega))).trans hk
      have hltX : w.heap.size + 1 < X.heap.size := (Array.getElem?_eq_some_iff.1 hlX).1
      refine ⟨_, run_beginRound hlX (by rw [hrec]), ?_⟩
      have hl2 : (X.putObj (w.heap.size + 1) (.loop { rec .ready none with state := .busy })).heap[w.heap.size + 1]? = some (.loop { rec .ready none with state := .busy }) := World.putObj_heap_same hltX
      have hk2 : (X.putObj (w.heap.size + 1) (.loop { rec .ready none with state := .busy })).heap[w.heap.size]? = some (.deferred (some [])) := (World.putObj_heap_other (by omega)).trans hkX
      have hput : ∀ (Y : World) (o : Obj) (k : Nat), k < w.heap.size + 2 → k ≠ w.heap.size + 1 → (Y.putObj (w.heap.size + 1) o).heap[k]? = Y.heap[k]? := fun Y o k _ hk => World.putObj_heap_other hk
      have hsX := hf.size
      refine wpIn_mono (hbody _ pre x a₁ _ (by simp; omega) hpre ((hI pre).putObj hx _ (by omega)) ((hAx pre x a₁).putObj ha _ (by omega))) ?_
      rintro e a3 W3 hp
      cases e with
      | normal =>
        obtain ⟨hk3, hi3⟩ := hp
        have hl3 := (hk3.block _ (by omega) (hnS _ (by omega))).trans hl2
        have hd3 := (hk3.block _ (by omega) (hnS _ (by omega))).trans hk2
        have hr := run_endRound (P := P) none hl3
        have hlt3 := (Array.getElem?_eq_some_iff.1 hl3).1
        refine ⟨_, _, hr, .inl ⟨rfl, ⟨(hI _).putObj hi3 _ (by omega), ?_, ?_⟩, ?_⟩⟩
        · rw [World.putObj_heap_same hlt3, hrec]; rfl
        · exact (World.putObj_heap_other (by omega)).trans hd3
        · have hs3 := hk3.size
          refine ⟨by simp at hs3 ⊢; omega, fun k hk hs => ?_⟩
          by_cases hk1 : k = w.heap.size + 1
          · rw [hk1, World.putObj_heap_same hlt3, hl, hrec]; rfl
          · rw [hput _ _ k (by omega) hk1, hk3.block k (by omega) hs, hput _ _ k (by omega) hk1]
            exact hf.block k (by omega) hs
      | exit i =>
        obtain ⟨rfl, hk3, hi3⟩ := hp
        have hl3 := (hk3.block _ (by omega) (hnS _ (by omega))).trans hl2
        have hd3 := (hk3.block _ (by omega) (hnS _ (by omega))).trans hk2
        have hr := run_endRound (P := P) (some (.exit i)) hl3
        have hlt3 := (Array.getElem?_eq_some_iff.1 hl3).1
        refine ⟨_, _, hr, .inr ⟨rfl, (hIx _).putObj hi3 _ (by omega), ?_, ?_⟩⟩
        · rw [World.putObj_heap_same hlt3, hrec]; rfl
        · exact (World.putObj_heap_other (by omega)).trans hd3
      | ret => exact hp.elim
      | goto t => exact hp.elim
      | panic ch => exact hp.elim
      | outgrown => exact hp.elim
    · rintro e W2 ⟨⟨v, rfl⟩, (⟨hi, hl, hk⟩ | ⟨pre, hp, hi, hl, hk⟩)⟩
      · exact ⟨none, _, by have := run_endLoop (P := P) hl (by rw [hrec]; simp); rw [hrec] at this; exact this, hdone _ _ rfl ((hI _).putObj hi _ (by omega)) ((World.putObj_heap_other (by omega)).trans hk)⟩
      · exact ⟨some (.exit id), _, by have := run_endLoop (P := P) hl (by rw [hrec]; simp); rw [hrec] at this; exact this, hstop _ pre _ rfl hp ((hIx _).putObj hi _ (by omega)) ((World.putObj_heap_other (by omega)).trans hk)⟩
end Go.Proofs.Ytpcbolmidnoaiaa

/- The iterator sectorsOf. -/
set_option linter.unusedVariables false
set_option linter.unusedSimpArgs false
namespace Go.Proofs.Ytpcbolmidnoaiaa
open Go.RowKit Go.Shelf
attribute [local go_sem] Oper.semAt_some
/-- Sector i of the bytes; zeros stand behind them. -/
def secAt (X : List Int) (i : Nat) : List Int := (X.drop (128 * i)).take 128 ++ List.replicate (128 - ((X.drop (128 * i)).take 128).length) 0
def nSec (X : List Int) : Nat := (X.length + 127) / 128
theorem secAt_sec {X : List Int} (h : ∀ x ∈ X, 0 ≤ x ∧ x < 256) (i : Nat) : Sec (secAt X i) := by
  refine ⟨by unfold secAt; rw [List.length_append, List.length_replicate]; have := List.length_take_le 128 (X.drop (128 * i)); omega, fun x hx => ?_⟩
  unfold secAt at hx
  rcases List.mem_append.1 hx with q | q
  · exact h x (List.mem_of_mem_drop (List.mem_of_mem_take q))
  · rw [List.eq_of_mem_replicate q]; omega
theorem pre_rangeN {N : Nat} {pre : List Nat} (h : pre <+: List.range N) : pre = List.range pre.length ∧ pre.length ≤ N := by
  have hl : pre.length ≤ N := by have := h.length_le; rwa [List.length_range] at this
  refine ⟨?_, hl⟩
  have := List.prefix_iff_eq_take.1 h
  rw [this, List.length_take, List.length_range, Nat.min_eq_left hl, List.take_range, Nat.min_eq_left hl]
theorem range_preN {N k : Nat} (h : k < N) : List.range k ++ [k] <+: List.range N := by
  rw [← List.range_succ]
  refine List.prefix_iff_eq_take.2 ?_
  rw [List.length_range, List.take_range, Nat.min_eq_left (by omega)]
def encS (place : Nat) (X : List Int) (i : Nat) : Array Value := #[.int .i64 ((place + i : Nat) : Int), .agg (vals8 (secAt X i)).toArray]
theorem drop_next (X : List Int) (k q : Nat) (hq : q = min (X.drop (128 * k)).length 128) : (X.drop (128 * k)).drop q = X.drop (128 * (k + 1)) := by
  rw [List.drop_drop]
  rw [List.length_drop] at hq
  by_cases h : 128 ≤ X.length - 128 * k
  · rw [Nat.min_eq_right h] at hq
    rw [hq]; congr 1
  · rw [Nat.min_eq_left (by omega)] at hq
    rw [List.drop_of_length_le (by omega), List.drop_of_length_le (by omega)]
/-- What was copied into a new sector. -/
theorem range_copied {w : World} {b : Nat} {X : List Int} {k : Nat} (h : At 56 w b (nums .u8 128 fun _ => 0)) :
    (w.setCells b 0 (vals8 ((X.drop (128 * k)).take 128))).rangeAt b 0 (vals8 (secAt X k)) := by
  have ht := at_there h
  rw [nums_size] at ht
  have hll : ((X.drop (128 * k)).take 128).length ≤ 128 := List.length_take_le _ _
  obtain ⟨Y, hY⟩ : ∃ Y, (X.drop (128 * k)).take 128 = Y := ⟨_, rfl⟩
  unfold secAt
  rw [hY] at hll ⊢
  have h1 := World.rangeAt_setCells_same w b 0 (vals8 Y) (by rw [vals8_len]; exact there_sub ht 0 Y.length (by omega))
  intro j v hv
  rw [vals8, List.map_append, ← vals8, ← vals8] at hv
  by_cases hj : j < Y.length
  · rw [List.getElem?_append_left (by rw [vals8_len]; exact hj)] at hv
    exact h1 j v hv
  · rw [List.getElem?_append_right (by rw [vals8_len]; omega), vals8_len] at hv
    rw [World.cell?_setCells_out b (vals8 Y) 0 w ⟨b, 0 + j, none⟩ (fun _ _ => .inr (by rw [vals8_len]; show 0 + Y.length ≤ 0 + j; omega)), h.cell, Nat.zero_add]
    obtain ⟨h2, h3⟩ := List.getElem?_eq_some_iff.1 hv
    rw [vals8_len, List.length_replicate] at h2
    have e : v = .int .u8 0 := by rw [← h3]; simp [vals8]
    rw [e]
    unfold nums
    simp [show j < 128 by omega]
theorem slice_own {a2 : Option Addr} {n2 c2 b : Nat} {B : Nat} {W : World} {Y : List Int} (h : Bys8 B W (.slice a2 n2 c2) Y) : True := trivial
theorem bys_from2 {B : Nat} {W : World} {a : Option Addr} {n c : Nat} {xs : List Int} (h : Bys8 B W (.slice a n c) xs) (hn : n = xs.length) (hc : n ≤ c) (k : Nat) (hk : k ≤ n) :
    ∃ a2 n2 c2, (∀ W' : World, (Instr.slice 23 (.slice a n c) (some (.int .i64 (k : Int))) none none).run Try.prog W' = .ok (.slice a2 n2 c2) W') ∧ n2 = (xs.drop k).length ∧ Bys8 B W (.slice a2 n2 c2) (xs.drop k) ∧ n2 ≤ c2 ∧ (∀ q, (Value.slice a2 n2 c2).ownBlock = some q → (Value.slice a n c).ownBlock = some q) := by
  have hr : ∀ W' : World, (Instr.slice 23 (.slice a n c) (some (.int .i64 (k : Int))) none none).run Try.prog W' = .ok (sliced a k n c 1) W' := fun W' => by
    rw [run_slice_l W' 23 a n c (by rw [elem8]; exact Try.underlying23) .i64 k (by omega) (by omega), elem8, size8]
    simp [Result.andThen]
  obtain ⟨a2, n2, c2, h1, h2, h3, h4⟩ := bys_from h hn hc k hk
  have e := (hr W).symm.trans (h1 W)
  refine ⟨a2, n2, c2, h1, h2, h3, h4, fun q hq => ?_⟩
  have e2 : sliced a k n c 1 = .slice a2 n2 c2 := by injection e
  rw [← e2] at hq
  unfold sliced at hq
  cases a with
  | none => simp [Value.ownBlock] at hq
  | some x =>
    split at hq
    · exact hq
    · have hq' : (x.add (k * 1)).block = q := Option.some.inj hq
      show some x.block = some q
      rw [← hq']
      unfold Addr.add
      split <;> rfl
def encL (Bl Bp : Nat) (r : Nat) : Prop := r = Bl ∨ r = Bp
set_option maxRecDepth 100000 in
set_option maxHeartbeats 4000000 in
theorem sectors_in (n : Nat) (hn : 1 ≤ n) (l Bl Bp : Nat) (X : List Int) (hXl : X.length ≤ 1000000) (a : Option Addr) (m c place : Nat) (hpl : place ≤ 100000) (S : Nat → Prop) (hS : ∀ j, S j → j ≠ Bl ∧ j ≠ Bp ∧ (Value.slice a m c).ownBlock ≠ some j) (hne : Bl ≠ Bp)
    (hob : (Value.slice a m c).ownBlock ≠ some Bl ∧ (Value.slice a m c).ownBlock ≠ some Bp) (W : World) (hbl : At 23 W Bl #[.slice a m c]) (hbp : At 3 W Bp #[.int .i64 (place : Nat)]) (hX : Bys8 W.heap.size W (.slice a m c) X) (hmX : m = X.length) (hmc : m ≤ c)
    (J Jx : List Nat → World → Prop) (hJ : ∀ pre, SteadyG (encL Bl Bp) (J pre))
    (hY : ∀ pre x W1, pre ++ [x] <+: List.range (nSec X) → W.heap.size ≤ W1.heap.size → J pre W1 → YieldAt Fence.wide (n - 1) Try.prog l (encS place X x) W1 fun e W' =>
      (e = .returned (.bool true) ∧ J (pre ++ [x]) W' ∧ Only W.heap.size S W1 W') ∨ (e = .returned (.bool false) ∧ Jx (pre ++ [x]) W')) (h0 : J [] W) :
    CallsIn Fence.wide n Try.prog 79 #[.func (.yield l) #[] #[], .pointer (some ⟨Bl, 0, none⟩), .pointer (some ⟨Bp, 0, none⟩)] W fun e W' => (∃ v, e = .returned v) ∧ (J (List.range (nSec X)) W' ∨ ∃ pre, pre <+: List.range (nSec X) ∧ Jx pre W') := by
  have hz := (zero_of_info jsec_zero).1
  have HLT := Lib.hid (And.intro hbl.lt hbp.lt)
  have HJ := Lib.hid hJ
  have HY := Lib.hid hY
  have HS := Lib.hid (And.intro hS (And.intro hne hob))
  have HJ0 := Lib.hid h0
  have H0 := Lib.hid (And.intro hbl (And.intro hbp (And.intro hX (And.intro hmX (And.intro hmc (And.intro hXl hpl))))))
  clear hJ hY hS h0 hbl hbp hX hmX hmc hne hob hXl hpl
  refine callsIn_of_wp Try.func79 rfl trivial ?_ rfl
  simp only [Try.ntmps79, List.size_toArray, List.length_cons, List.length_nil, Nat.reduceAdd, Nat.reduceSub, Array.replicate_succ, Array.replicate_zero, List.push_toArray, List.append_toArray, List.nil_append, List.cons_append]
  gi_wp2
  gi_loopw [5] (fun _ wr => ∃ (k : Nat) (a' : Option Addr) (n' c' : Nat), k ≤ nSec X ∧ J (List.range k) wr ∧ W.heap.size ≤ wr.heap.size ∧ At 23 wr Bl #[.slice a' n' c'] ∧ At 3 wr Bp #[.int .i64 ((place + k : Nat) : Int)] ∧ n' = (X.drop (128 * k)).length ∧ Bys8 W.heap.size wr (.slice a' n' c') (X.drop (128 * k)) ∧ n' ≤ c' ∧ (∀ q, (Value.slice a' n' c').ownBlock = some q → (Value.slice a m c).ownBlock = some q)) (fun _ wr => boxL Bl wr)
  case atStart => exact ⟨0, a, m, c, Nat.zero_le _, HJ0.out, Nat.le_refl _, H0.out.1, H0.out.2.1, H0.out.2.2.2.1, H0.out.2.2.1, H0.out.2.2.2.2.1, fun q e => e⟩
  case round =>
    obtain ⟨k, a', n', c', hk, hJk, hsz, hat, hpt, hnl, hby, hnc, hown⟩ := hrel
    have z1 : wr.cell? ⟨Bl, 0, none⟩ = some (.slice a' n' c') := hat.cell 0
    by_cases hn0 : n' = 0
    · have hkN : k = nSec X := by
        rw [hn0, List.length_drop] at hnl
        unfold nSec at hk ⊢
        omega
      rw [hkN] at hJk
      have HJP := Lib.hid hJk
      subst hn0
      clear hk hJk hsz hat hpt hnl hby hnc hown hkN
      gi_wp2
      go_end0
      exact ⟨⟨_, rfl⟩, .inl HJP.out⟩
    · have i0 : (0 : Int) < (n' : Int) := by omega
      have hkN : k < nSec X := by
        rw [List.length_drop] at hnl
        unfold nSec
        omega
      have HK := Lib.hid (And.intro hkN (And.intro hJk (And.intro hsz (And.intro hat (And.intro hpt (And.intro hnl (And.intro hby (And.intro hnc hown))))))))
      clear hk hJk hsz hat hpt hnl hby hnc hown hn0 hkN
      obtain ⟨hkN, hJk, hsz, hat, hpt, hnl, hby, hnc, hown⟩ := HK.out
      obtain ⟨b, off, rfl, hbW, hnl2⟩ := hby.ptr (by omega)
      obtain ⟨V, hV⟩ : ∃ V, V = wr.alloc (.cells (nums .u8 128 fun _ => 0) 56) := ⟨_, rfl⟩
      have hVb : Below wr.heap.size wr V := by rw [hV]; exact (Below.refl _ wr).alloc (Nat.le_refl _) _
      have hVs : V.heap.size = wr.heap.size + 1 := by rw [hV, World.size_alloc]
      have hVa : At 56 V.drew wr.heap.size (nums .u8 128 fun _ => 0) := by rw [hV]; exact At.new _ wr _
      obtain ⟨L, hL⟩ : ∃ L, (X.drop (128 * k)).take 128 = L := ⟨_, rfl⟩
      obtain ⟨qn, hqn⟩ : ∃ qn, L.length = qn := ⟨_, rfl⟩
      have hq1 : qn = min (X.drop (128 * k)).length 128 := by rw [← hqn, ← hL, List.length_take]; omega
      have hqn' : qn ≤ n' := by omega
      have hby' : Bys8 W.heap.size V.drew (.slice (some ⟨b, off, none⟩) n' c') (X.drop (128 * k)) := hby.below ((hVb.drew).mono hsz)
      have hth := at_there hVa
      rw [nums_size] at hth
      have hcopy : ∀ ty, (Builtin.copy_ #[23, 23] ty #[.slice (some ⟨wr.heap.size, 0, none⟩) 128 128, .slice (some ⟨b, off, none⟩) n' c']).run Try.prog V.drew = .ok (.int .i64 (qn : Int)) (V.drew.setCells wr.heap.size 0 (vals8 L)) := fun ty => by
        have h9 := run_copy_cells (P := Try.prog) V.drew 23 23 ty 5 wr.heap.size 0 128 128 ⟨b, off, none⟩ n' c' (vals8 L) Try.underlying23 (by kernel_rfl) (by rw [vals8_len, hqn]; show qn = min n' 128; omega)
          (fun i v hv => by
            obtain ⟨h2, h3⟩ := List.getElem?_eq_some_iff.1 hv
            rw [vals8_len, hqn] at h2
            rcases hby'.2 with ⟨e, _⟩ | ⟨b2, o2, c2, e, _, hc⟩
            · rw [e] at hnl; simp at hnl; omega
            · cases e
              rw [Addr.add_mid]
              have h4 := hc i (by omega)
              rw [h4, ← hv]
              unfold vals8
              rw [List.getElem?_map, ← hL, List.getElem?_take_of_lt (by omega)]
              have h5 : i < (X.drop (128 * k)).length := by omega
              rw [List.getElem?_eq_getElem h5]
              simp only [List.getD]
              rw [List.getElem?_eq_getElem h5]
              rfl)
          (fun i hi => (hth i (by rw [vals8_len, hqn] at hi; omega)).1) (fun i hi => (hth i (by rw [vals8_len, hqn] at hi; omega)).2) (vals8_one L)
        rw [h9, vals8_len, hqn]
        rfl
      have hV3b : Below wr.heap.size wr (V.drew.setCells wr.heap.size 0 (vals8 L)) := below_setCells hVb.drew (by show wr.heap.size ≤ V.heap.size; omega) (Nat.le_refl _) _ _
      have hrg : (V.drew.setCells wr.heap.size 0 (vals8 L)).rangeAt wr.heap.size 0 (vals8 (secAt X k)) := by rw [← hL]; exact range_copied hVa
      have hsec := secAt_sec H0.out.2.2.1.1 k
      obtain ⟨V3, hV3⟩ : ∃ V3, V3 = V.drew.setCells wr.heap.size 0 (vals8 L) := ⟨_, rfl⟩
      rw [← hV3] at hcopy hV3b hrg
      have hld := run_loadVar_mid (P := Try.prog) V3 wr.heap.size 0 56 _ _ hrg Try.underlying56 rfl (jsec_size hsec.1)
      have hJ3 := HJ.out _ wr V3 none hJk (grown_of hV3b none) (fun r e => by cases e)
      obtain ⟨fn, tmps, assign, body, hyy, hR⟩ := HY.out (List.range k) k V3 (range_preN hkN) (Nat.le_trans hsz hV3b.size) hJ3
      unfold encS at hyy
      have HR := Lib.hid hR
      have HCPY := Lib.hid hcopy
      have HLD := Lib.hid hld
      have HSL := Lib.hid (fun Z => jslice_all wr.heap.size Z)
      have HQ := Lib.hid (And.intro hq1 hqn')
      have HV3 := Lib.hid hV3b
      have p3 : V3.cell? ⟨Bp, 0, none⟩ = some (.int .i64 ((place + k : Nat) : Int)) := (hV3b.cell (p := ⟨Bp, 0, none⟩) hpt.lt).trans (hpt.cell 0)
      have q1 : (fun Z : World => Z.cell? ⟨Bl, 0, none⟩ = some (.slice (some ⟨b, off, none⟩) n' c')) V.drew := (hVb.drew.cell (p := ⟨Bl, 0, none⟩) hat.lt).trans (hat.cell 0)
      have q3 : (fun Z : World => Z.cell? ⟨Bl, 0, none⟩ = some (.slice (some ⟨b, off, none⟩) n' c')) V3 := (hV3b.cell (p := ⟨Bl, 0, none⟩) hat.lt).trans (hat.cell 0)
      have HVE := Lib.hid hV
      obtain ⟨PK, hPK⟩ : ∃ PK, place + k = PK := ⟨_, rfl⟩
      have HPK := Lib.hid (And.intro hPK (show PK ≤ 2000000 by
        have h1 := H0.out.2.2.2.2.2.2
        have h2 := H0.out.2.2.2.2.2.1
        have h3 := hkN
        unfold nSec at h3
        omega))
      rw [hPK] at p3 hyy
      clear hkN hJk hsz hat hpt hnl hby hnc hown hbW hnl2 hVb hVs hVa hL hqn hq1 hqn' hby' hth hcopy hV3b hrg hsec hV3 hld hJ3 hR hV hPK
      gi_wp2_with fail
      rw [← HVE.out]
      refine regionLIn0 (fun Z : World => Z.cell? ⟨Bl, 0, none⟩ = some (.slice (some ⟨b, off, none⟩) n' c')) 3 (by kernel_rfl) (by kernel_rfl) ?_
      refine takeL (i := 0) (oi := { dst := some 9, op := Go.Op.slice 56 (Go.Operand.tmp 4) none none none, type := 23, pos := "journal.go:243", after := #[], guard := none }) (v := .slice (some ⟨wr.heap.size, 0, none⟩) 128 128) [3, 2] rfl (by kernel_rfl) (by kernel_rfl) (by kernel_rfl) (by kernel_rfl) (fun _ _ _ h => only_panic h) rfl ?_ q1 ?_
      · intro Z hZ; have e := HSL.out Z; go_simp
      simp only [Act.put, List.setIfInBounds_toArray, List.set_cons_zero, List.set_cons_succ]
      refine takeL (i := 1) (oi := { dst := some 10, op := Go.Op.load 23 (Go.Operand.tmp 1), type := 23, pos := "journal.go:243", after := #[], guard := none }) (v := .slice (some ⟨b, off, none⟩) n' c') [3, 2] rfl (by kernel_rfl) (by kernel_rfl) (by kernel_rfl) (by kernel_rfl) (fun _ _ _ h => only_panic h) rfl ?_ q1 ?_
      · intro Z hZ; have z1 := hZ; go_simp
      simp only [Act.put, List.setIfInBounds_toArray, List.set_cons_zero, List.set_cons_succ]
      refine oneL (i := 2) (o := { dst := some 11, op := Go.Op.call { callee := Go.Callee.builtin Go.Builtin.copy, args := #[Go.Operand.tmp 9, Go.Operand.tmp 10], argTypes := #[23, 23] }, type := 3, pos := "journal.go:243", after := #[{ on := 0, ground := Go.Ground.data }, { on := 1, ground := Go.Ground.data }], guard := none }) rfl (by kernel_rfl) rfl ?_
      refine wp_by_run (w' := V3) (v := .int .i64 (qn : Int)) (exec_copy rfl rfl rfl (HCPY.out _)) ⟨fun _ => q3, ?_⟩
      simp only [Act.put, List.setIfInBounds_toArray, List.set_cons_zero, List.set_cons_succ]
      refine oneL (i := 3) (o := { dst := some 5, op := Go.Op.assign (Go.Operand.tmp 11), type := 3, pos := "journal.go:243", after := #[{ on := 2, ground := Go.Ground.data }, { on := 2, ground := Go.Ground.chain }, { on := 0, ground := Go.Ground.phase }, { on := 1, ground := Go.Ground.phase }, { on := 2, ground := Go.Ground.phase }], guard := none }) rfl (by kernel_rfl) rfl ?_
      refine wp_by_run (w' := V3) (v := .int .i64 (qn : Int)) (by go_simp) ⟨fun h => absurd rfl h, ?_⟩
      simp only [Act.put, List.setIfInBounds_toArray, List.set_cons_zero, List.set_cons_succ]
      refine doneL (by kernel_rfl) (⟨rfl, ?_⟩) _
      gi_wp2_with (first | (refine wpListIn_val (fun _ => trivial) rfl (by intro c hc; cases hc) (exec_load rfl rfl HLD.out) ?_) | fail)
      refine HR.out.mono ?_
      rintro e W6 (⟨rfl, hJ6, hO6⟩ | ⟨rfl, hJx6⟩)
      · obtain ⟨hkN, hJk, hsz, hat, hpt, hnl, hby, hnc, hown⟩ := HK.out
        have hs3 := HV3.out.size
        have hs6 := hO6.size
        have a6 : At 23 W6 Bl #[.slice (some ⟨b, off, none⟩) n' c'] := (hO6.block Bl HLT.out.1 (fun q => (HS.out.1 Bl q).1 rfl)).trans ((HV3.out.block Bl hat.lt).trans hat)
        have p6 : At 3 W6 Bp #[.int .i64 ((place + k : Nat) : Int)] := (hO6.block Bp HLT.out.2 (fun q => (HS.out.1 Bp q).2.1 rfl)).trans ((HV3.out.block Bp hpt.lt).trans hpt)
        obtain ⟨b0, o0, e0, hbW, hnl2⟩ := hby.ptr (by omega)
        cases e0
        have b6 : W6.heap[b]? = wr.heap[b]? := (hO6.block b hbW (fun q => (HS.out.1 b q).2.2 (hown b rfl))).trans (HV3.out.block b (by omega))
        have hby6 : Bys8 W.heap.size W6 (.slice (some ⟨b, off, none⟩) n' c') (X.drop (128 * k)) := hby.other b6
        obtain ⟨a2, n2, c2, hsl, h2, h3, h4, h5⟩ := bys_from2 hby6 hnl hnc qn HQ.out.2
        rw [drop_next X k qn HQ.out.1] at h2 h3
        have hbBl : b ≠ Bl ∧ b ≠ Bp := ⟨fun e => HS.out.2.2.1 (by rw [← e]; exact hown b rfl), fun e => HS.out.2.2.2 (by rw [← e]; exact hown b rfl)⟩
        obtain ⟨Y1, hY1⟩ : ∃ Y1, Y1 = W6.drew.setCell ⟨Bp, 0, none⟩ (.int .i64 ((PK + 1 : Nat) : Int)) := ⟨_, rfl⟩
        obtain ⟨Y, hY⟩ : ∃ Y, Y = Y1.setCell ⟨Bl, 0, none⟩ (.slice a2 n2 c2) := ⟨_, rfl⟩
        have p7 : At 3 Y1 Bp #[.int .i64 ((PK + 1 : Nat) : Int)] := by rw [hY1]; exact (show At 3 W6.drew Bp _ from p6).set 0 _
        have a7 : At 23 Y1 Bl #[.slice (some ⟨b, off, none⟩) n' c'] := by rw [hY1]; exact (show At 23 W6.drew Bl _ from a6).other _ (by show Bl ≠ Bp; exact HS.out.2.1)
        have a8 : At 23 Y Bl #[.slice a2 n2 c2] := by rw [hY]; exact a7.set 0 _
        have p8 : At 3 Y Bp #[.int .i64 ((PK + 1 : Nat) : Int)] := by rw [hY]; exact p7.other _ (by show Bp ≠ Bl; exact HS.out.2.1.symm)
        have g1 : W6.grownBy Y1 (some Bp) := by rw [hY1]; exact ⟨rfl, rfl, rfl, by simp, fun j _ hj => heap_setCell_other W6.drew ⟨Bp, 0, none⟩ j _ (fun e => hj (by rw [e]))⟩
        have g2 : Y1.grownBy Y (some Bl) := by rw [hY]; exact grown_setCell Y1 Bl 0 _
        have hJ8 : J (List.range (k + 1)) Y := by
          rw [List.range_succ]
          exact HJ.out _ Y1 Y (some Bl) (HJ.out _ W6 Y1 (some Bp) hJ6 g1 (fun r e => by cases e; exact .inr rfl)) g2 (fun r e => by cases e; exact .inl rfl)
        have b8 : Y.heap[b]? = W6.heap[b]? := (g2.block b (by have := g1.size; omega) (fun e => hbBl.1 (Option.some.inj e))).trans (g1.block b (by omega) (fun e => hbBl.2 (Option.some.inj e)))
        have hby8 : Bys8 W.heap.size Y (.slice a2 n2 c2) (X.drop (128 * (k + 1))) := by
          rcases h3.2 with ⟨e, q⟩ | ⟨b2, o2, c3, e, hlt, hc⟩
          · exact ⟨h3.1, .inl ⟨e, q⟩⟩
          · have e9 := h5 b2 (by rw [e]; rfl)
            have e10 : b = b2 := Option.some.inj e9
            subst e10
            have h9 := h3
            rw [e] at h9 ⊢
            exact h9.other b8
        have HREL := Lib.hid (And.intro hJ8 (And.intro (show W.heap.size ≤ Y.heap.size by have := g1.size; have := g2.size; omega) (And.intro a8 (And.intro p8 (And.intro h2 (And.intro hby8 (And.intro h4 (show ∀ q, (Value.slice a2 n2 c2).ownBlock = some q → (Value.slice a m c).ownBlock = some q from fun q e => hown q (h5 q e)))))))))
        have HM := Lib.hid (show boxL Bl Y < boxL Bl wr by
          rw [boxL_eq (show wr.heap[Bl]? = some (.cells #[.slice (some ⟨b, off, none⟩) n' c'] 23 (0, 0)) from hat), boxL_eq (show Y.heap[Bl]? = some (.cells #[.slice a2 n2 c2] 23 (0, 0)) from a8)]
          have h1 := HQ.out.1
          rw [h2, hnl]
          rw [List.length_drop] at h1 ⊢
          rw [List.length_drop]
          rw [hnl, List.length_drop] at i0
          omega)
        have HCN := Lib.hid (show k + 1 ≤ nSec X by omega)
        have HSLY := Lib.hid hsl
        have w5 : wrap64 ((PK : Int) + 1) = ((PK + 1 : Nat) : Int) := wrap_succ (by have := HPK.out.2; omega)
        have w6 : IntKind.i64.wrap ((PK : Int) + 1) = ((PK + 1 : Nat) : Int) := by rw [IntKind.wrap_i64]; have := HPK.out.2; omega
        have HW := Lib.hid (And.intro w5 w6)
        have cA : W6.drew.cell? ⟨Bp, 0, none⟩ = some (.int .i64 (PK : Int)) := by rw [← HPK.out.1]; exact p6.cell 0
        have cB : W6.drew.cell? ⟨Bl, 0, none⟩ = some (.slice (some ⟨b, off, none⟩) n' c') := a6.cell 0
        have fA : W6.drew.frozen? ⟨Bp, 0, none⟩ = false := p6.free 0
        have fB : Y1.frozen? ⟨Bl, 0, none⟩ = false := a7.free 0
        have cB1 : Y1.cell? ⟨Bl, 0, none⟩ = some (.slice (some ⟨b, off, none⟩) n' c') := a7.cell 0
        have HY1 := Lib.hid hY1
        have HYY := Lib.hid hY
        clear hkN hJk hsz hat hpt hnl hby hnc hown hs3 hs6 a6 p6 hbW hnl2 b6 hby6 hsl h2 h3 h4 h5 hbBl hY1 hY p7 a7 a8 p8 g1 g2 hJ8 b8 hby8 w5 w6 hJ6 hO6 hyy q1 q3 p3
        gi_wp2_with fail
        refine regionLIn0 (fun Z : World => Z.cell? ⟨Bl, 0, none⟩ = some (.slice (some ⟨b, off, none⟩) n' c')) 6 (by kernel_rfl) (by kernel_rfl) ?_
        refine takeL (i := 3) (oi := { dst := some 20, op := Go.Op.move (Go.Operand.tmp 5), type := 3, pos := "journal.go:247", after := #[], guard := none }) (v := .int .i64 (qn : Int)) [6, 4] rfl (by kernel_rfl) (by kernel_rfl) (by kernel_rfl) (by kernel_rfl) (fun _ _ _ h => only_panic h) rfl ?_ cB ?_
        · intro Z hZ; go_simp
        simp only [Act.put, List.setIfInBounds_toArray, List.set_cons_zero, List.set_cons_succ]
        refine takeL (i := 2) (oi := { dst := some 19, op := Go.Op.load 23 (Go.Operand.tmp 1), type := 23, pos := "journal.go:247", after := #[], guard := none }) (v := .slice (some ⟨b, off, none⟩) n' c') [6, 4] rfl (by kernel_rfl) (by kernel_rfl) (by kernel_rfl) (by kernel_rfl) (fun _ _ _ h => only_panic h) rfl ?_ cB ?_
        · intro Z hZ; have z1 := hZ; go_simp
        simp only [Act.put, List.setIfInBounds_toArray, List.set_cons_zero, List.set_cons_succ]
        refine takeL (i := 4) (oi := { dst := some 21, op := Go.Op.slice 23 (Go.Operand.tmp 19) (some (Go.Operand.tmp 20)) none none, type := 23, pos := "journal.go:247", after := #[{ on := 2, ground := Go.Ground.data }, { on := 3, ground := Go.Ground.data }], guard := none }) (v := .slice a2 n2 c2) [6] rfl (by kernel_rfl) (by kernel_rfl) (by kernel_rfl) (by kernel_rfl) (fun _ _ _ h => only_panic h) rfl ?_ cB ?_
        · intro Z hZ; have e := HSLY.out Z; go_simp
        simp only [Act.put, List.setIfInBounds_toArray, List.set_cons_zero, List.set_cons_succ]
        refine oneL (i := 0) (o := { dst := some 17, op := Go.Op.load 3 (Go.Operand.tmp 2), type := 3, pos := "journal.go:247", after := #[], guard := none }) rfl (by kernel_rfl) rfl ?_
        refine wp_by_run (w' := W6.drew) (v := .int .i64 (PK : Int)) (by go_simp) ⟨fun _ => cB, ?_⟩
        simp only [Act.put, List.setIfInBounds_toArray, List.set_cons_zero, List.set_cons_succ]
        refine takeL (i := 1) (oi := { dst := some 18, op := Go.Op.binOp Go.BinOp.add 3 (Go.Operand.tmp 17) (Go.Operand.const (Go.Value.int Go.IntKind.i64 1)) 3, type := 3, pos := "journal.go:247", after := #[{ on := 0, ground := Go.Ground.data }], guard := none }) (v := .int .i64 ((PK + 1 : Nat) : Int)) [6, 5] rfl (by kernel_rfl) (by kernel_rfl) (by kernel_rfl) (by kernel_rfl) (fun _ _ _ h => only_panic h) rfl ?_ cB ?_
        · intro Z hZ; have w6 := HW.out.2; have w5 := HW.out.1; go_simp
        simp only [Act.put, List.setIfInBounds_toArray, List.set_cons_zero, List.set_cons_succ]
        refine oneL (i := 5) (o := { dst := none, op := Go.Op.store 3 (Go.Operand.tmp 2) (Go.Operand.tmp 18), type := 0, pos := "journal.go:247", after := #[{ on := 1, ground := Go.Ground.data }, { on := 0, ground := Go.Ground.phase }, { on := 1, ground := Go.Ground.phase }, { on := 2, ground := Go.Ground.textOnly Go.Departure.inlinedCapture }, { on := 3, ground := Go.Ground.textOnly Go.Departure.lateStores }, { on := 4, ground := Go.Ground.textOnly Go.Departure.lateStoresUnsure }], guard := none }) rfl (by kernel_rfl) rfl ?_
        refine wp_by_skip (w' := Y1) (by rw [HY1.out]; exact exec_store rfl rfl rfl cA fA rfl (by kernel_rfl)) ⟨fun _ => cB1, ?_⟩
        simp only [Act.put, List.setIfInBounds_toArray, List.set_cons_zero, List.set_cons_succ]
        refine oneL (i := 6) (o := { dst := none, op := Go.Op.store 23 (Go.Operand.tmp 1) (Go.Operand.tmp 21), type := 0, pos := "journal.go:247", after := #[{ on := 4, ground := Go.Ground.data }, { on := 5, ground := Go.Ground.chain }, { on := 0, ground := Go.Ground.phase }, { on := 1, ground := Go.Ground.phase }, { on := 2, ground := Go.Ground.phase }, { on := 3, ground := Go.Ground.phase }, { on := 4, ground := Go.Ground.phase }, { on := 5, ground := Go.Ground.phase }], guard := none }) rfl (by kernel_rfl) rfl ?_
        refine wp_by_skip (w' := Y) (by rw [HYY.out]; exact exec_store rfl rfl rfl cB1 fB rfl (by kernel_rfl)) ⟨fun h => absurd rfl h, ?_⟩
        simp only [Act.put, List.setIfInBounds_toArray, List.set_cons_zero, List.set_cons_succ]
        refine doneL (by kernel_rfl) (⟨rfl, ?_⟩) _
        gi_wp2
        go_roundw
        case rel => exact ⟨k + 1, a2, n2, c2, HCN.out, HREL.out.1, HREL.out.2.1, HREL.out.2.2.1, by rw [show place + (k + 1) = PK + 1 by have := HPK.out.1; omega]; exact HREL.out.2.2.2.1, HREL.out.2.2.2.2⟩
        case measure => exact HM.out
      · have hp : List.range k ++ [k] <+: List.range (nSec X) := range_preN HK.out.1
        have HJ6 := Lib.hid (And.intro hp hJx6)
        clear hJx6 hyy hp q1 q3 p3
        gi_wp2
        refine bodyPost_ret (results_none rfl _ _ _) rfl ?_
        exact ⟨⟨_, rfl⟩, .inr ⟨_, HJ6.out.1, HJ6.out.2⟩⟩
theorem sectors_seq (n : Nat) (hn : 1 ≤ n) (Bl Bp : Nat) (X : List Int) (hXl : X.length ≤ 1000000) (a : Option Addr) (m c place : Nat) (hpl : place ≤ 100000) (S : Nat → Prop) (hS : ∀ j, S j → j ≠ Bl ∧ j ≠ Bp ∧ (Value.slice a m c).ownBlock ≠ some j) (hne : Bl ≠ Bp)
    (hob : (Value.slice a m c).ownBlock ≠ some Bl ∧ (Value.slice a m c).ownBlock ≠ some Bp) (w : World) (hbl : At 23 w Bl #[.slice a m c]) (hbp : At 3 w Bp #[.int .i64 (place : Nat)]) (hX : Bys8 w.heap.size w (.slice a m c) X) (hmX : m = X.length) (hmc : m ≤ c) :
    SeqBx n Try.prog 79 #[.pointer (some ⟨Bl, 0, none⟩), .pointer (some ⟨Bp, 0, none⟩)] (encS place X) (encL Bl Bp) S (List.range (nSec X)) w := by
  intro l J Jx W hW hJ hY h0
  exact sectors_in n hn l Bl Bp X hXl a m c place hpl S hS hne hob W (hbl.below hbl.lt hW) (hbp.below hbp.lt hW) ((hX.below hW).mono hW.size) hmX hmc J Jx hJ hY h0
end Go.Proofs.Ytpcbolmidnoaiaa

/- writeLog. -/
set_option linter.unusedVariables false
set_option linter.unusedSimpArgs false
namespace Go.Proofs.Ytpcbolmidnoaiaa
open Go.RowKit Go.Shelf
attribute [local go_sem] Oper.semAt_some
/-- The device behind the first k writes of the log's sectors, from place on. -/
def wrsN (d : Dv) (place : Nat) (X : List Int) : Nat → Dv
  | 0 => d
  | k + 1 => (wrsN d place X k).write ((place + k : Nat) : Int) (secAt X k)
theorem wrsN_len (d : Dv) (place : Nat) (X : List Int) : ∀ k, (wrsN d place X k).safe.length = d.safe.length ∧ (wrsN d place X k).cache.length ≤ d.cache.length + k ∧ (wrsN d place X k).calls ≤ d.calls + k
  | 0 => ⟨rfl, Nat.le_refl _, by show d.calls ≤ _; omega⟩
  | k + 1 => by
    obtain ⟨h1, h2, h3⟩ := wrsN_len d place X k
    show ((wrsN d place X k).write _ _).safe.length = _ ∧ ((wrsN d place X k).write _ _).cache.length ≤ _ ∧ ((wrsN d place X k).write _ _).calls ≤ _
    unfold Dv.write
    split
    · exact ⟨h1, by omega, by omega⟩
    · refine ⟨h1, ?_, ?_⟩
      · show ((wrsN d place X k).cache ++ [_]).length ≤ _
        rw [List.length_append, List.length_singleton]; omega
      · show (wrsN d place X k).calls + 1 ≤ _
        omega
theorem write_downs {d : Dv} (h : d.down = true) (n : Int) (L : List Int) : d.write n L = d := by
  have e : accE d n = 120 := by unfold accE; rw [if_pos h]
  unfold Dv.write
  rw [e]
  rw [if_pos (.inl (by decide))]
theorem wrsN_down (d : Dv) (place : Nat) (X : List Int) (k : Nat) (h : (wrsN d place X k).down = true) : ∀ m, wrsN d place X (k + m) = wrsN d place X k
  | 0 => rfl
  | m + 1 => by
    have ih := wrsN_down d place X k h m
    show (wrsN d place X (k + m)).write _ _ = _
    rw [ih]
    exact write_downs h _ _
theorem sectorsOf_in (n : Nat) (place : Int) (a : Option Addr) (m c : Nat) (w : World) :
    CallsIn Fence.wide n Try.prog 67 #[.int .i64 place, .slice a m c] w fun e w' => e = .returned (.func (.func 79) #[] #[.pointer (some ⟨w.heap.size + 1, 0, none⟩), .pointer (some ⟨w.heap.size, 0, none⟩)]) ∧ w' = (w.alloc (.cells #[.int .i64 place] 3)).alloc (.cells #[.slice a m c] 23) := by
  refine callsIn_of_wp Try.func67 rfl trivial ?_ rfl
  simp only [Try.ntmps67, List.size_toArray, List.length_cons, List.length_nil, Nat.reduceAdd, Nat.reduceSub, Array.replicate_succ, Array.replicate_zero, List.push_toArray, List.append_toArray, List.nil_append, List.cons_append]
  gi_wp2
  go_ret
  exact ⟨rfl, rfl⟩
/-- What holds between the rounds. -/
structure WlS (w : World) (st : Nat) (p : Pl) (d : Dv) (jB : Nat) (cs : Array Value) (place : Nat) (X : List Int) (E : Int) (dn : Bool) (k : Nat) (W : World) (p1 : Pl) : Prop where
  dev : DevAt W p1 (wrsN d place X k)
  D : p1.D = p.D
  B : p1.B1 = p.B1 ∧ p1.B2 = p.B2
  ownd : ∀ j, own p1 j → own p j ∨ st + 2 ≤ j
  jr : At 72 W jB cs
  box : At 31 W w.heap.size #[ptr jB]
  err : At 28 W (w.heap.size + 1) #[.int .i64 E]
  dwn : (wrsN d place X k).down = dn
  upd : Upd (own p) w W
theorem WlS.steady {w : World} {st : Nat} {p : Pl} {d : Dv} {jB : Nat} {cs : Array Value} {place : Nat} {X : List Int} {E : Int} {dn : Bool} {k : Nat} {Z Y : World} {p1 : Pl} (h : WlS w st p d jB cs place X E dn k Z p1) {row : Option Nat} (hg : Z.grownBy Y row)
    (hw : ∀ j, own p j → j < w.heap.size) (hb : p.B1 < w.heap.size ∧ p.B2 < w.heap.size) (hj : jB < w.heap.size) (hr : ∀ r, row = some r → w.heap.size + 2 ≤ r ∧ r < st + 2) : WlS w st p d jB cs place X E dn k Y p1 := by
  have hu : Upd (fun j => row = some j) Z Y := (Upd.refl _ Z).grown hg (fun r e => .inl e)
  have hs := h.upd.size
  refine ⟨h.dev.upd hu (fun j hj' e => ?_) (fun e => ?_) (fun e => ?_), h.D, h.B, h.ownd, h.jr.upd hu (fun e => by have := hr _ e; omega), h.box.upd hu (fun e => by have := hr _ e; omega), h.err.upd hu (fun e => by have := hr _ e; omega), h.dwn, h.upd.trans hu (fun j e => by have := hr _ e; exact .inr (by omega))⟩
  · have h1 := hr _ e
    rcases h.ownd j hj' with q | q
    · have := hw j q; omega
    · omega
  · have h1 := hr _ e; rw [h.B.1] at h1; omega
  · have h1 := hr _ e; rw [h.B.2] at h1; omega
/-- The last of a beginning of the numbers below N. -/
theorem bx_at {N : Nat} {pre : List Nat} {x : Nat} (h : pre ++ [x] <+: List.range N) : x = pre.length ∧ x < N := by
  obtain ⟨t, ht⟩ := h
  have h1 : (List.range N)[pre.length]? = some x := by rw [← ht]; simp
  obtain ⟨h2, h3⟩ := List.getElem?_eq_some_iff.1 h1
  rw [List.getElem_range] at h3
  rw [List.length_range] at h2
  exact ⟨h3.symm, by omega⟩
theorem store_jsec_in {F : Fence} {n : Nat} {w : World} {ops : Array Oper} {rest : List Oper} {o : Oper} {a : Act} {Q : Exit → Act → World → Prop} {x y : Operand} {T : TypeId} {g : Nat} {L : List Int} {cs : Array Value} (hF : ∀ f, F.fn f) (hg : At T w g cs) (hs : cs.size = 128) (hl : L.length = 128)
    (hgd : o.guard = none) (ho : o.op = .store 56 x y) (hx : a.eval x = .pointer (some ⟨g, 0, none⟩)) (hy : a.eval y = .agg (vals8 L).toArray) (h : wpListIn F n Try.prog ops Q rest (a.put o.dst undef) (w.setRow g (vals8 L).toArray)) : wpListIn F n Try.prog ops Q (o :: rest) a w := by
  refine wpListIn_skip (w' := w.setRow g (vals8 L).toArray) hF hgd (by rw [ho]; intro c hc; cases hc) ?_ h
  unfold execOp
  have := run_storeVar_row (P := Try.prog) w g T 56 cs (vals8 L).toArray hg (by rw [jsec_size hl]; simp) (by simp [vals8_len, hl, hs]) (vals8_all L)
  simp only [ho, hx, hy, Instr.storeAt, Instr.sureAddr, Sem.run_bind, Sem.run_pure, Result.andThen_ok, this]
def WLE (w w' : World) (p : Pl) (d d' : Dv) (e : Ending) : Prop := e = .returned (.int .i64 (downE d'.down)) ∧ ∃ p', DevAt w' p' d' ∧ Step p p' w w'
theorem WlS.next {w : World} {st : Nat} {p : Pl} {d : Dv} {jB : Nat} {cs : Array Value} {place : Nat} {X : List Int} {E0 : Int} {dn : Bool} {k : Nat} {W : World} {p1 : Pl} (h : WlS w st p d jB cs place X E0 dn k W p1)
    (hw : ∀ j, own p j → j < w.heap.size) (hb : p.B1 < w.heap.size ∧ p.B2 < w.heap.size) (hj : jB < w.heap.size) (hst : st = w.heap.size + 4) (hW : st + 2 ≤ W.heap.size) (hjo : ¬ own p jB)
    {W2 : World} {p2 : Pl} (hd2 : DevAt W2 p2 (wrsN d place X (k + 1))) (hs : Step p1 p2 W W2) (hB1 : p2.B1 = p1.B1) (hB2 : p2.B2 = p1.B2) (E : Int) :
    At 28 W2 (w.heap.size + 1) #[.int .i64 E0] ∧ Only (st + 2) (fun k => own p k ∨ k = w.heap.size + 1) W (W2.setCell ⟨w.heap.size + 1, 0, none⟩ (.int .i64 E)) ∧ WlS w st p d jB cs place X E (wrsN d place X (k + 1)).down (k + 1) (W2.setCell ⟨w.heap.size + 1, 0, none⟩ (.int .i64 E)) p2 := by
  have hu : Upd (fun j => j = w.heap.size + 1) W2 (W2.setCell ⟨w.heap.size + 1, 0, none⟩ (.int .i64 E)) := (Upd.refl (fun j => j = w.heap.size + 1) W2).setCell (p := ⟨w.heap.size + 1, 0, none⟩) (.inl rfl) _
  have ho1 : ∀ j, own p1 j → j < w.heap.size ∨ st + 2 ≤ j := fun j q => (h.ownd j q).elim (fun e => .inl (hw j e)) .inr
  have ho2 : ∀ j, own p2 j → own p j ∨ st + 2 ≤ j := fun j q => (hs.has j q).elim (fun e => h.ownd j e) (fun e => .inr (by omega))
  have e1 : ¬ own p1 (w.heap.size + 1) := fun q => by have := ho1 _ q; omega
  have e0 : ¬ own p1 w.heap.size := fun q => by have := ho1 _ q; omega
  have ej : ¬ own p1 jB := fun q => (h.ownd _ q).elim hjo (fun e => by omega)
  have hE := h.err.upd hs.upd e1
  refine ⟨hE, ?_, ?_⟩
  · refine Only.setCell ⟨hs.upd.size, fun j hj hn => hs.upd.block j (by omega) (fun q => (h.ownd j q).elim (fun e => hn (.inl e)) (fun e => by omega))⟩ _ (.inr rfl) _
  · refine ⟨hd2.upd hu (fun j q e => ?_) (fun e => ?_) (fun e => ?_), hs.D.trans h.D, ⟨hB1.trans h.B.1, hB2.trans h.B.2⟩, ho2, (h.jr.upd hs.upd ej).upd hu (fun e => by omega), (h.box.upd hs.upd e0).upd hu (fun e => by omega), hE.set 0 _, rfl, ?_⟩
    · rcases ho2 j q with q' | q'
      · have := hw j q'; omega
      · omega
    · rw [hB1, h.B.1] at e; omega
    · rw [hB2, h.B.2] at e; omega
    · exact (h.upd.trans hs.upd (fun j q => (h.ownd j q).elim .inl (fun e => .inr (by omega)))).trans hu (fun j e => .inr (by omega))
theorem WlS.fin {w : World} {st : Nat} {p : Pl} {d : Dv} {jB : Nat} {cs : Array Value} {place : Nat} {X : List Int} {E : Int} {dn : Bool} {k : Nat} {W : World} {p1 : Pl} (h : WlS w st p d jB cs place X E dn k W p1) (hw : ∀ j, own p j → j < w.heap.size) (hb : p.B1 < w.heap.size ∧ p.B2 < w.heap.size) (hst : st = w.heap.size + 4) (o : Obj)
    (hE : E = downE dn) (hk : wrsN d place X (nSec X) = wrsN d place X k) : WLE w (W.putObj st o) p d (wrsN d place X (nSec X)) (.returned (.int .i64 E)) := by
  have hu : Upd (fun j => j = st) W (W.putObj st o) := (Upd.refl (fun j => j = st) W).putObj (k := st) (.inl rfl) _
  rw [hk]
  refine ⟨by rw [hE, h.dwn], p1, h.dev.upd hu (fun j q e => ?_) (fun e => ?_) (fun e => ?_), ⟨h.D, h.upd.trans hu (fun j e => .inr (by omega)), fun j q => (h.ownd j q).elim .inl (fun e => .inr (by omega))⟩⟩
  · rcases h.ownd j q with q' | q'
    · have := hw j q'; omega
    · omega
  · rw [h.B.1] at e; omega
  · rw [h.B.2] at e; omega
set_option maxRecDepth 100000 in
set_option maxHeartbeats 4000000 in
theorem writeLog_any (p : Pl) (d : Dv) (jB : Nat) (cs : Array Value) (w : World) (hd : DevAt w p d) (hj : At 72 w jB cs) (h0 : cs[0]? = some (ptr p.D)) (q end0 : Nat) (h2 : cs[2]? = some (.int .i64 (end0 : Nat))) (hq : end0 / 128 = q) (he : end0 ≤ 600000)
    (X : List Int) (a : Option Addr) (m c : Nat) (hX : Bys8 w.heap.size w (.slice a m c) X) (hm : m = X.length) (hmc : m ≤ c) (hXl : X.length ≤ 600000) (hob : ∀ k, (Value.slice a m c).ownBlock = some k → k < w.heap.size ∧ ¬ own p k) (hup : d.down = false)
    (hcap : 2 + q + nSec X ≤ d.safe.length) (hcache : d.cache.length + nSec X ≤ 256) (hcalls : d.calls < 4000000000000000000) :
    Calls Try.prog 54 #[ptr jB, .slice a m c] w fun e w' => WLE w w' p d (wrsN d (2 + q) X (nSec X)) e := by
  obtain ⟨place, hpl⟩ : ∃ place, 2 + q = place := ⟨_, rfl⟩
  rw [hpl]
  have hpl6 : place ≤ 100000 := by omega
  have hq9 : q < 9223372036854775808 := by omega
  have hp9 : place < 9223372036854775808 := by omega
  have hpe : 2 + (q : Int) = (place : Int) := by omega
  obtain ⟨X0, hX0⟩ : ∃ X0, X0 = (w.alloc (.cells #[ptr jB] 31)).alloc (.cells #[.int .i64 0] 28) := ⟨_, rfl⟩
  have s0 : X0.heap.size = w.heap.size + 2 := by rw [hX0]; simp
  have hb0 : Below w.heap.size w X0 := by rw [hX0]; exact ((Below.refl _ w).alloc (Nat.le_refl _) _).alloc (by simp) _
  have y0 : At 31 X0 w.heap.size #[ptr jB] := by rw [hX0]; exact (At.new _ w _).below (B := w.heap.size + 1) (by omega) ((Below.refl _ _).alloc (by simp) _)
  have y1 : At 28 X0 (w.heap.size + 1) #[.int .i64 0] := by rw [hX0]; have := At.new 28 (w.alloc (.cells #[ptr jB] 31)) #[.int .i64 0]; rwa [World.size_alloc] at this
  have k2 : X0.cell? ⟨jB, 2, none⟩ = some (.int .i64 (end0 : Nat)) := by rw [hb0.cell (p := ⟨jB, 2, none⟩) hj.lt, hj.cell]; exact h2
  have k0 : X0.cell? ⟨w.heap.size, 0, none⟩ = some (ptr jB) := y0.cell 0
  have hap := sectorsOf_in (6 - 1) (place : Int) a m c X0
  have HAP := Lib.hid hap
  have HXX := Lib.hid hX0
  have HP := Lib.hid (And.intro hpl6 (And.intro s0 (And.intro hb0 (And.intro y0 y1))))
  have HQ := Lib.hid (And.intro hd (And.intro hj (And.intro h0 (And.intro hX (And.intro hm (And.intro hmc (And.intro hXl (And.intro hob (And.intro hup (And.intro (show place + nSec X ≤ d.safe.length by omega) (And.intro hcache hcalls)))))))))))
  rw [hX0] at k2 k0
  rw [hX0] at HAP
  have td : (end0 : Int).tdiv 128 = (q : Int) := quo_nat hq
  have wq : wrap64 (q : Int) = (q : Int) := wrap_nat hq9
  have wp : wrap64 (2 + (q : Int)) = (place : Int) := by rw [hpe]; exact wrap_nat hp9
  clear hpe hq9 hp9
  clear hd hj h0 h2 hq he hX hm hmc hXl hob hup hcap hcache hcalls hpl hpl6 s0 hb0 y0 y1 hap hX0
  refine (callsIn_wide (n := 6)).1 ?_
  refine callsIn_of_wp_marks Try.func54 rfl trivial ?_ rfl
  simp only [Try.ntmps54, List.size_toArray, List.length_cons, List.length_nil, Nat.reduceAdd, Nat.reduceSub, Array.replicate_succ, Array.replicate_zero, List.push_toArray, List.append_toArray, List.nil_append, List.cons_append]
  gi_wp2_with fail
  refine wpIn_scope_straight ?_
  gi_wp2_with fail
  first | refine wpIn_label ?_ | refine wpIn_seq (wpIn_label ?_)
  gi_wp2_with fail
  refine ⟨trivial, ?_⟩
  rw [← HXX.out]
  rw [← HXX.out] at HAP
  refine HAP.out.mono ?_
  rintro e X1 ⟨rfl, hX1⟩
  obtain ⟨hpl6, s0, hb0, y0, y1⟩ := HP.out
  obtain ⟨hd, hj, h0, hX, hm, hmc, hXl, hob, hup, hcap, hcache, hcalls⟩ := HQ.out
  have s1 : X1.heap.size = w.heap.size + 4 := by rw [hX1, World.size_alloc, World.size_alloc, s0]
  have sA : (X0.alloc (.cells #[.int .i64 (place : Int)] 3)).heap.size = w.heap.size + 3 := by rw [World.size_alloc, s0]
  have hb01 : Below X0.heap.size X0 X1 := by rw [hX1]; exact ((Below.refl _ X0).alloc (Nat.le_refl _) _).alloc (by rw [sA]; omega) _
  have hb1 : Below w.heap.size w X1 := hb0.trans (hb01.mono (by omega))
  have yp : At 3 X1 (w.heap.size + 2) #[.int .i64 (place : Nat)] := by
    have h9 := At.new 3 X0 #[.int .i64 (place : Int)]
    rw [s0] at h9
    rw [hX1]
    exact h9.below (B := w.heap.size + 3) (by omega) ((Below.refl _ _).alloc (by rw [sA]; omega) _)
  have yl : At 23 X1 (w.heap.size + 3) #[.slice a m c] := by
    have h9 := At.new 23 (X0.alloc (.cells #[.int .i64 (place : Int)] 3)) #[.slice a m c]
    rw [sA] at h9
    rw [hX1]
    exact h9
  have z0 : At 31 X1 w.heap.size #[ptr jB] := y0.below (B := w.heap.size + 2) (by omega) (hb01.mono (by omega))
  have z1 : At 28 X1 (w.heap.size + 1) #[.int .i64 0] := y1.below (B := w.heap.size + 2) (by omega) (hb01.mono (by omega))
  have hlt := hd.lt
  have hB12 : p.B1 < w.heap.size ∧ p.B2 < w.heap.size := ⟨hd.b1.lt, hd.b2.lt⟩
  have hjl := hj.lt
  have hno : ¬ own p jB := fun ho => by
    obtain ⟨cs', fr', T, h1, h2⟩ := hd.typed jB ho
    unfold At at hj
    rw [hj] at h1
    cases h1
    rcases h2 with e | e | e <;> exact absurd e (by decide)
  have HX1 := Lib.hid hX1
  have HM := Lib.hid hm
  rw [s0, show w.heap.size + 2 + 1 = w.heap.size + 3 from rfl]
  clear hX1 hm
  gi_wp2_with fail
  refine wpIn_rangeFunc_bx (gf := 79) (lb := #[.pointer (some ⟨w.heap.size + 3, 0, none⟩), .pointer (some ⟨w.heap.size + 2, 0, none⟩)]) rfl (enters_of Try.func79 (by kernel_rfl) rfl)
    (List.range (nSec X)) (encS place X) (encL (w.heap.size + 3) (w.heap.size + 2)) (fun r hr => by rcases hr with rfl | rfl <;> omega) (fun k => own p k ∨ k = w.heap.size + 1) 0
    (sectors_seq (6 - 1) (by omega) (w.heap.size + 3) (w.heap.size + 2) X (by omega) a m c place hpl6 _ (fun k hk => by
        rcases hk with hk | hk
        · have := hlt k hk
          exact ⟨by omega, by omega, fun e => (hob k e).2 hk⟩
        · exact ⟨by omega, by omega, fun e => by have := (hob k e).1; omega⟩) (by omega) ⟨fun e => by have := (hob _ e).1; omega, fun e => by have := (hob _ e).1; omega⟩ X1 yl yp ((hX.below hb1).mono hb1.size) HM.out hmc) (fun _ => rfl) (fun k hk => by
        rcases hk with hk | hk
        · have := hlt k hk; omega
        · omega)
    (fun pre W => ∃ p1, WlS w X1.heap.size p d jB cs place X 0 false pre.length W p1) (fun pre W => ∃ p1, WlS w X1.heap.size p d jB cs place X 120 true pre.length W p1)
    (fun pre X' Y row hs' hg hr => let ⟨p1, h1⟩ := hs'; ⟨p1, h1.steady hg hlt hB12 hjl (fun r e => by rcases hr r e with (q | q) | q <;> omega)⟩)
    (fun pre X' Y row hs' hg hr => let ⟨p1, h1⟩ := hs'; ⟨p1, h1.steady hg hlt hB12 hjl (fun r e => by rcases hr r e with (q | q) | q <;> omega)⟩)
    ⟨p, hd.below hb1, rfl, ⟨rfl, rfl⟩, fun k hk => .inl hk, hj.below hjl hb1, z0, z1, hup, Upd.of hb1 _⟩
    (fun pre x a₁ W => ∃ g u12 u13, At 56 W g (vals8 (secAt X x)).toArray ∧ X1.heap.size + 2 ≤ g ∧ a₁ = { tmps := #[ptr jB, .slice a m c, .pointer (some ⟨w.heap.size, 0, none⟩), undef, .int .i64 0, .pointer (some ⟨w.heap.size + 1, 0, none⟩), .int .i64 ((place + x : Nat) : Int), .pointer (some ⟨g, 0, none⟩), ptr jB, .pointer (some ⟨jB, 0, none⟩), .pointer (some ⟨jB, 2, none⟩), .int .i64 (end0 : Int), u12, u13, .slice a m c, .func (.func 79) #[] #[.pointer (some ⟨w.heap.size + 3, 0, none⟩), .pointer (some ⟨w.heap.size + 2, 0, none⟩)], .int .i64 ((place + x : Nat) : Int), .agg (vals8 (secAt X x)).toArray, undef, undef, undef, undef, undef, undef, undef], defers := [] })
    (fun pre x a₁ X' Y row hs hg hr => let ⟨g, u12, u13, h1, h2, h3⟩ := hs; ⟨g, u12, u13, (hg.block g h1.lt (fun e => by rcases hr g e.symm with (q | q) | q <;> omega)).trans h1, h2, h3⟩)
    ?assign ?body ?done ?stop
  case assign =>
    intro l pre x W K hsz hpre hI hK
    have hz := (zero_of_info jsec_zero).1
    have hsec := secAt_sec hX.1 x
    have HA := Lib.hid (At.new 56 W (nums .u8 128 fun _ => 0))
    obtain ⟨W2, hW2⟩ : ∃ W2, W2 = (W.alloc (.cells (nums .u8 128 fun _ => 0) 56)).setRow W.heap.size (vals8 (secAt X x)).toArray := ⟨_, rfl⟩
    have hb2 : Below W.heap.size W W2 := by rw [hW2]; exact below_row ((Below.refl _ W).alloc (Nat.le_refl _) _) (Nat.le_refl _) _
    have hat2 : At 56 W2 W.heap.size (vals8 (secAt X x)).toArray := by rw [hW2]; exact HA.out.row
    have hI2 : ∃ p1, WlS w X1.heap.size p d jB cs place X 0 false pre.length W2 p1 := by
      obtain ⟨p1, h1⟩ := hI
      exact ⟨p1, h1.steady (row := none) (grown_of hb2 none) hlt hB12 hjl (fun r e => by cases e)⟩
    have hO2 : Only (X1.heap.size + 2) (fun k => own p k ∨ k = w.heap.size + 1) W W2 := Only.of hb2 hsz
    have HF := Lib.hid (And.intro hI2 (And.intro hO2 (And.intro hat2 hsz)))
    have HW2 := Lib.hid hW2
    have HS := Lib.hid hsec
    unfold encS
    clear hI hb2 hat2 hI2 hO2 hW2 hsec hsz hpre HAP HXX HP HQ hpl6 s0 hb0 y0 y1 hd hj h0 hX hmc hXl hob hup hcap hcache hcalls s1 sA hb01 hb1 yp yl z0 z1 hlt hB12 hjl hno HX1 HM
    gi_wp2_with (first | (refine store_jsec_in (fun _ => trivial) HA.out (nums_size _ _ _) HS.out.1 rfl rfl rfl rfl ?_) | fail)
    rw [← HW2.out]
    exact hK _ _ HF.out.2.1 HF.out.1 ⟨_, _, _, HF.out.2.2.1, HF.out.2.2.2, rfl⟩
  case body =>
    rintro l pre x a₁ W hsz hpre ⟨p1, hI⟩ ⟨g, u12, u13, hat, hg, rfl⟩
    obtain ⟨hxk, hxn⟩ := bx_at hpre
    have hll : (pre ++ [x]).length = x + 1 := by rw [List.length_append, ← hxk]; rfl
    rw [← hxk] at hI
    have hlen := wrsN_len d place X x
    have hac : accE (wrsN d place X x) ((place + x : Nat) : Int) = 0 := by
      unfold accE
      rw [hI.dwn, if_neg (by decide), if_pos]
      exact ⟨by omega, by rw [hlen.1]; omega⟩
    have hsec := secAt_sec hX.1 x
    have hJ := jwrite_any p1 _ jB cs W hI.dev hI.jr (by rw [hI.D]; exact h0) _ hac (secAt X x) hsec (by omega) (by omega)
    have HLD := Lib.hid (run_loadVar_mid (P := Try.prog) W g 0 56 _ _ (range_at hat) Try.underlying56 rfl (jsec_size hsec.1))
    have k0 : W.cell? ⟨w.heap.size, 0, none⟩ = some (ptr jB) := hI.box.cell 0
    obtain ⟨Y, hY⟩ : ∃ Y, Y = wrsN d place X (x + 1) := ⟨_, rfl⟩
    have HN := Lib.hid (show ∀ (W2 : World) (p2 : Pl), DevAt W2 p2 Y → Step p1 p2 W W2 → p2.B1 = p1.B1 → p2.B2 = p1.B2 → ∀ (E : Int),
        At 28 W2 (w.heap.size + 1) #[.int .i64 0] ∧ Only (X1.heap.size + 2) (fun k => own p k ∨ k = w.heap.size + 1) W (W2.setCell ⟨w.heap.size + 1, 0, none⟩ (.int .i64 E)) ∧ WlS w X1.heap.size p d jB cs place X E Y.down (pre ++ [x]).length (W2.setCell ⟨w.heap.size + 1, 0, none⟩ (.int .i64 E)) p2 from by
      intro W2 p2 h1 h2 h3 h4 E
      rw [hll, hY]
      rw [hY] at h1
      exact hI.next hlt hB12 hjl s1 hsz hno h1 h2 h3 h4 E)
    unfold WrE at hJ
    rw [show (wrsN d place X x).write ((place + x : Nat) : Int) (secAt X x) = Y from hY.symm] at hJ
    have HJ := Lib.hid hJ
    clear hJ hY hI hll hxk hlen hac hsec hat hpre hsz HAP HXX HP HQ hpl6 s0 hb0 y0 y1 hd hj h0 hX hmc hXl hob hup hcap hcache hcalls s1 sA hb01 hb1 yp yl z0 z1 hlt hB12 hjl hno HX1 HM
    gi_wp2_with (first | (refine wpListIn_val (fun _ => trivial) rfl (by intro c hc; cases hc) (exec_load rfl rfl HLD.out) ?_) | fail)
    refine ⟨trivial, ?_⟩
    refine (callsIn_wide.2 HJ.out).mono ?_
    rintro e W2 ⟨rfl, p2, hd2, hs2, hq1, hq2⟩
    have HF := Lib.hid (HN.out W2 p2 hd2 hs2 hq1 hq2)
    clear HN HJ hd2 hs2 hq1 hq2
    obtain ⟨dn, hdn⟩ : ∃ dn, Y.down = dn := ⟨_, rfl⟩
    rw [hdn] at HF
    rw [hdn]
    have k1 : W2.cell? ⟨w.heap.size + 1, 0, none⟩ = some (.int .i64 0) := (HF.out 0).1.cell 0
    have f1 : W2.frozen? ⟨w.heap.size + 1, 0, none⟩ = false := frozen_of_row W2 _ 0 _ _ (HF.out 0).1
    rcases dn with _ | _
    · have HEND := Lib.hid (show brkPost (X1.heap.size + 2) (fun k => own p k ∨ k = w.heap.size + 1) 0 (fun W => ∃ p1, WlS w X1.heap.size p d jB cs place X 0 false (pre ++ [x]).length W p1) (fun W => ∃ p1, WlS w X1.heap.size p d jB cs place X 120 true (pre ++ [x]).length W p1) W .normal { tmps := #[], defers := [] } (W2.setCell ⟨w.heap.size + 1, 0, none⟩ (.int .i64 0)) from ⟨(HF.out 0).2.1, _, (HF.out 0).2.2⟩)
      have k2 : (W2.setCell ⟨w.heap.size + 1, 0, none⟩ (.int .i64 0)).cell? ⟨w.heap.size + 1, 0, none⟩ = some (.int .i64 0) := ((HF.out 0).2.2).err.cell 0
      have iy : ((0 : Int) != 0) = false := by decide
      rw [show downE false = 0 from rfl]
      clear HF
      gi_wp2_with fail
      exact HEND.out
    · have HEND := Lib.hid (show brkPost (X1.heap.size + 2) (fun k => own p k ∨ k = w.heap.size + 1) 0 (fun W => ∃ p1, WlS w X1.heap.size p d jB cs place X 0 false (pre ++ [x]).length W p1) (fun W => ∃ p1, WlS w X1.heap.size p d jB cs place X 120 true (pre ++ [x]).length W p1) W (.exit 0) { tmps := #[], defers := [] } (W2.setCell ⟨w.heap.size + 1, 0, none⟩ (.int .i64 120)) from ⟨rfl, (HF.out 120).2.1, _, (HF.out 120).2.2⟩)
      have k2 : (W2.setCell ⟨w.heap.size + 1, 0, none⟩ (.int .i64 120)).cell? ⟨w.heap.size + 1, 0, none⟩ = some (.int .i64 120) := ((HF.out 120).2.2).err.cell 0
      have iy : ((120 : Int) != 0) = true := by decide
      rw [show downE true = 120 from rfl]
      clear HF
      gi_wp2_with fail
      exact HEND.out
  case done =>
    rintro D W hD ⟨p1, hI⟩ hK
    rw [List.length_range] at hI
    have k1 : W.cell? ⟨w.heap.size + 1, 0, none⟩ = some (.int .i64 0) := hI.err.cell 0
    subst hD
    have HEND := Lib.hid (fun o => hI.fin hlt hB12 s1 o rfl rfl)
    have HK := Lib.hid hK
    clear hI hK HAP HXX HP HQ hpl6 s0 hb0 y0 y1 hd hj h0 hX hmc hXl hob hup hcap hcache hcalls s1 sA hb01 hb1 yp yl z0 z1 hlt hB12 hjl hno HX1 HM
    gi_wp2_with fail
    rw [Exit.noGoto_ret]
    refine ⟨by simp, .inl ⟨_, _, rfl, run_takeDeferred HK.out, ?_⟩⟩
    exact ⟨_, results_tmp rfl _ _ _, HEND.out _⟩
  case stop =>
    rintro D pre W hD hpre ⟨p1, hI⟩ hK
    have hle : pre.length ≤ nSec X := by have := hpre.length_le; rwa [List.length_range] at this
    have hdw := wrsN_down d place X pre.length hI.dwn (nSec X - pre.length)
    rw [show pre.length + (nSec X - pre.length) = nSec X by omega] at hdw
    have k1 : W.cell? ⟨w.heap.size + 1, 0, none⟩ = some (.int .i64 120) := hI.err.cell 0
    subst hD
    have HEND := Lib.hid (fun o => hI.fin hlt hB12 s1 o rfl hdw)
    have HK := Lib.hid hK
    clear hI hK hdw hle hpre HAP HXX HP HQ hpl6 s0 hb0 y0 y1 hd hj h0 hX hmc hXl hob hup hcap hcache hcalls s1 sA hb01 hb1 yp yl z0 z1 hlt hB12 hjl hno HX1 HM
    gi_wp2_with fail
    rw [Exit.noGoto_ret]
    refine ⟨by simp, .inl ⟨_, _, rfl, run_takeDeferred HK.out, ?_⟩⟩
    exact ⟨_, results_tmp rfl _ _ _, HEND.out _⟩
end Go.Proofs.Ytpcbolmidnoaiaa

/- The four steps of a commit. -/
set_option linter.unusedVariables false
set_option linter.unusedSimpArgs false
namespace Go.Proofs.Ytpcbolmidnoaiaa
open Go.RowKit Go.Shelf
/-- A step of a commit: the device is d' then. -/
def StE (w w' : World) (p : Pl) (d' : Dv) (e : Ending) : Prop := e = .returned (.int .i64 (downE d'.down)) ∧ ∃ p', DevAt w' p' d' ∧ Step p p' w w'
theorem flushE_eq (d : Dv) : flushE d = downE d.flush.down := by
  unfold flushE Dv.flush
  cases h : d.down
  · rw [if_neg (by simp), if_neg (by simp)]
    cases hk : d.counted.down
    · rw [if_neg (by simp)]; exact congrArg downE hk.symm
    · rw [if_pos rfl, hk]
  · rw [if_pos rfl, if_pos rfl, h]; rfl
theorem stepW_any (jB b0 b5 : Nat) (a : Option Addr) (m c : Nat) (w : World) (p : Pl) (d' : Dv) (k0 : w.cell? ⟨b0, 0, none⟩ = some (ptr jB)) (k5 : w.cell? ⟨b5, 0, none⟩ = some (.slice a m c))
    (hW : Calls Try.prog 54 #[ptr jB, .slice a m c] w fun e w' => StE w w' p d' e) :
    Calls Try.prog 53 #[.pointer (some ⟨b0, 0, none⟩), .pointer (some ⟨b5, 0, none⟩)] w fun e w' => StE w w' p d' e := by
  obtain ⟨E, hE⟩ : ∃ E, downE d'.down = E := ⟨_, rfl⟩
  unfold StE at hW ⊢
  rw [hE] at hW ⊢
  have HW := Lib.hid hW
  clear hW hE
  go_enter Try.func53, Try.ntmps53
  go_wp2_with (first | (go_at_call 54; (with_reducible refine HW.out.mono ?_); rintro e w' ⟨rfl, hF⟩; have HF := Lib.hid hF; clear hF) | fail)
  go_ret
  exact ⟨rfl, HF.out⟩
theorem stepF2_any (jB b0 : Nat) (w : World) (p : Pl) (d : Dv) (k0 : w.cell? ⟨b0, 0, none⟩ = some (ptr jB)) (kD : w.cell? ⟨jB, 0, none⟩ = some (ptr p.D)) (hd : DevAt w p d) (hc : d.calls < 4611686018427387904) :
    Calls Try.prog 55 #[.pointer (some ⟨b0, 0, none⟩)] w fun e w' => StE w w' p d.flush e := by
  have hW := flush_any p d w hd hc
  rw [flushE_eq] at hW
  obtain ⟨E, hE⟩ : ∃ E, downE d.flush.down = E := ⟨_, rfl⟩
  unfold StE
  rw [hE] at hW ⊢
  have HW := Lib.hid hW
  clear hW hE hd hc
  go_enter Try.func55, Try.ntmps55
  go_wp2_with (first | (go_at_call 56; (with_reducible refine HW.out.mono ?_); rintro e w' ⟨rfl, hF⟩; have HF := Lib.hid hF; clear hF) | fail)
  go_ret
  exact ⟨rfl, HF.out⟩
theorem stepF4_any (jB b0 : Nat) (w : World) (p : Pl) (d : Dv) (k0 : w.cell? ⟨b0, 0, none⟩ = some (ptr jB)) (kD : w.cell? ⟨jB, 0, none⟩ = some (ptr p.D)) (hd : DevAt w p d) (hc : d.calls < 4611686018427387904) :
    Calls Try.prog 60 #[.pointer (some ⟨b0, 0, none⟩)] w fun e w' => StE w w' p d.flush e := by
  have hW := flush_any p d w hd hc
  rw [flushE_eq] at hW
  obtain ⟨E, hE⟩ : ∃ E, downE d.flush.down = E := ⟨_, rfl⟩
  unfold StE
  rw [hE] at hW ⊢
  have HW := Lib.hid hW
  clear hW hE hd hc
  go_enter Try.func60, Try.ntmps60
  go_wp2_with (first | (go_at_call 56; (with_reducible refine HW.out.mono ?_); rintro e w' ⟨rfl, hF⟩; have HF := Lib.hid hF; clear hF) | fail)
  go_ret
  exact ⟨rfl, HF.out⟩
set_option maxRecDepth 100000 in
set_option maxHeartbeats 1000000 in
theorem stepS_any (jB b0 bh be place num top fin : Nat) (w : World) (p : Pl) (d' : Dv) (k0 : w.cell? ⟨b0, 0, none⟩ = some (ptr jB)) (h0 : w.cell? ⟨bh, 0, none⟩ = some (.int .i64 (place : Nat))) (h1 : w.cell? ⟨bh, 1, none⟩ = some (.int .u64 (num : Nat))) (h5 : w.cell? ⟨be, 0, none⟩ = some (.int .i64 (fin : Nat)))
    (n1 : num < 18446744073709551616) (n2 : fin < 9223372036854775808) (hno : ∀ b, b = b0 ∨ b = bh ∨ b = be → b < w.heap.size ∧ ¬ own p b)
    (hW : ∀ Z, Below w.heap.size w Z → Calls Try.prog 58 #[ptr jB, .int .i64 (place : Nat), .agg (vals8 (sbL num fin)).toArray] Z fun e w' => StE Z w' p d' e) :
    Calls Try.prog 57 #[.pointer (some ⟨b0, 0, none⟩), .pointer (some ⟨bh, 0, none⟩), .pointer (some ⟨be, 0, none⟩)] w fun e w' => StE w w' p d' e := by
  obtain ⟨E, hE⟩ : ∃ E, downE d'.down = E := ⟨_, rfl⟩
  unfold StE at hW ⊢
  rw [hE] at hW ⊢
  have HW := Lib.hid hW
  have wf : IntKind.u64.wrap (fin : Int) = (fin : Int) := by rw [IntKind.wrap_u64]; omega
  have HSB := Lib.hid (fun Z => superblock_any num fin n1 (by omega) Z)
  have q0 : (fun Z : World => Z.cell? ⟨b0, 0, none⟩ = some (ptr jB) ∧ Z.cell? ⟨bh, 0, none⟩ = some (.int .i64 (place : Nat)) ∧ Z.cell? ⟨bh, 1, none⟩ = some (.int .u64 (num : Nat)) ∧ Z.cell? ⟨be, 0, none⟩ = some (.int .i64 (fin : Nat))) w.drew := ⟨k0, h0, h1, h5⟩
  have HQ := Lib.hid (show ∀ Z : World, (∀ b, b = b0 ∨ b = bh ∨ b = be → Z.heap[b]? = w.heap[b]?) → (fun Z : World => Z.cell? ⟨b0, 0, none⟩ = some (ptr jB) ∧ Z.cell? ⟨bh, 0, none⟩ = some (.int .i64 (place : Nat)) ∧ Z.cell? ⟨bh, 1, none⟩ = some (.int .u64 (num : Nat)) ∧ Z.cell? ⟨be, 0, none⟩ = some (.int .i64 (fin : Nat))) Z from fun Z hZ =>
    ⟨(World.cell?_of_block (a := ⟨b0, 0, none⟩) (hZ _ (.inl rfl))).trans k0, (World.cell?_of_block (a := ⟨bh, 0, none⟩) (hZ _ (.inr (.inl rfl)))).trans h0, (World.cell?_of_block (a := ⟨bh, 1, none⟩) (hZ _ (.inr (.inl rfl)))).trans h1, (World.cell?_of_block (a := ⟨be, 0, none⟩) (hZ _ (.inr (.inr rfl)))).trans h5⟩)
  have HNO := Lib.hid hno
  clear hW hE n1 n2 hno k0 h0 h1 h5
  go_enter Try.func57, Try.ntmps57
  go_wp2_with fail
  refine regionL (fun Z : World => Z.cell? ⟨b0, 0, none⟩ = some (ptr jB) ∧ Z.cell? ⟨bh, 0, none⟩ = some (.int .i64 (place : Nat)) ∧ Z.cell? ⟨bh, 1, none⟩ = some (.int .u64 (num : Nat)) ∧ Z.cell? ⟨be, 0, none⟩ = some (.int .i64 (fin : Nat))) 9 (by kernel_rfl) ?_
  refine takeL (i := 0) (oi := { dst := some 4, op := Go.Op.load 31 (Go.Operand.tmp 0), type := 31, pos := "journal.go:163", after := #[], guard := none }) (v := ptr jB) [9, 8] rfl (by kernel_rfl) (by kernel_rfl) (by kernel_rfl) (by kernel_rfl) (fun _ _ _ h => calm_panic h) rfl ?_ q0 ?_
  · intro Z hZ; have z1 := hZ.1; go_simp
  simp only [Act.put, List.setIfInBounds_toArray, List.set_cons_zero, List.set_cons_succ]
  refine takeL (i := 1) (oi := { dst := some 5, op := Go.Op.fieldAddr 62 (Go.Operand.tmp 1) 0, type := 0, pos := "journal.go:163", after := #[], guard := none }) (v := .pointer (some ⟨bh, 0, none⟩)) [9, 8, 2] rfl (by kernel_rfl) (by kernel_rfl) (by kernel_rfl) (by kernel_rfl) (fun _ _ _ h => calm_panic h) rfl ?_ q0 ?_
  · intro Z hZ; go_simp
  simp only [Act.put, List.setIfInBounds_toArray, List.set_cons_zero, List.set_cons_succ]
  refine takeL (i := 2) (oi := { dst := some 6, op := Go.Op.load 3 (Go.Operand.tmp 5), type := 3, pos := "journal.go:163", after := #[{ on := 1, ground := Go.Ground.data }], guard := none }) (v := .int .i64 (place : Nat)) [9, 8] rfl (by kernel_rfl) (by kernel_rfl) (by kernel_rfl) (by kernel_rfl) (fun _ _ _ h => calm_panic h) rfl ?_ q0 ?_
  · intro Z hZ; have z1 := hZ.2.1; go_simp
  simp only [Act.put, List.setIfInBounds_toArray, List.set_cons_zero, List.set_cons_succ]
  refine takeL (i := 3) (oi := { dst := some 7, op := Go.Op.fieldAddr 62 (Go.Operand.tmp 1) 1, type := 0, pos := "journal.go:163", after := #[], guard := none }) (v := .pointer (some ⟨bh, 1, none⟩)) [9, 8, 7, 4] rfl (by kernel_rfl) (by kernel_rfl) (by kernel_rfl) (by kernel_rfl) (fun _ _ _ h => calm_panic h) rfl ?_ q0 ?_
  · intro Z hZ; go_simp
  simp only [Act.put, List.setIfInBounds_toArray, List.set_cons_zero, List.set_cons_succ]
  refine takeL (i := 4) (oi := { dst := some 8, op := Go.Op.load 40 (Go.Operand.tmp 7), type := 40, pos := "journal.go:163", after := #[{ on := 3, ground := Go.Ground.data }], guard := none }) (v := .int .u64 (num : Nat)) [9, 8, 7] rfl (by kernel_rfl) (by kernel_rfl) (by kernel_rfl) (by kernel_rfl) (fun _ _ _ h => calm_panic h) rfl ?_ q0 ?_
  · intro Z hZ; have z1 := hZ.2.2.1; go_simp
  simp only [Act.put, List.setIfInBounds_toArray, List.set_cons_zero, List.set_cons_succ]
  refine takeL (i := 5) (oi := { dst := some 9, op := Go.Op.load 3 (Go.Operand.tmp 2), type := 3, pos := "journal.go:163", after := #[], guard := none }) (v := .int .i64 (fin : Nat)) [9, 8, 7, 6] rfl (by kernel_rfl) (by kernel_rfl) (by kernel_rfl) (by kernel_rfl) (fun _ _ _ h => calm_panic h) rfl ?_ q0 ?_
  · intro Z hZ; have z1 := hZ.2.2.2; go_simp
  simp only [Act.put, List.setIfInBounds_toArray, List.set_cons_zero, List.set_cons_succ]
  refine takeL (i := 6) (oi := { dst := some 10, op := Go.Op.convert 3 40 (Go.Operand.tmp 9), type := 40, pos := "journal.go:163", after := #[{ on := 5, ground := Go.Ground.data }], guard := none }) (v := .int .u64 (fin : Nat)) [9, 8, 7] rfl (by kernel_rfl) (by kernel_rfl) (by kernel_rfl) (by kernel_rfl) (fun _ _ _ h => calm_panic h) rfl ?_ q0 ?_
  · intro Z hZ; go_simp
  simp only [Act.put, List.setIfInBounds_toArray, List.set_cons_zero, List.set_cons_succ]
  refine oneL (i := 7) (o := { dst := some 11, op := Go.Op.call { callee := Go.Callee.value (Go.Operand.func 59), args := #[Go.Operand.tmp 8, Go.Operand.tmp 10], argTypes := #[40, 40] }, type := 56, pos := "journal.go:163", after := #[{ on := 4, ground := Go.Ground.data }, { on := 6, ground := Go.Ground.data }], guard := none }) rfl (by kernel_rfl) rfl ?_
  refine wp_by_call (f := 59) (args := #[.int .u64 (num : Nat), .int .u64 (fin : Nat)]) (by go_simp) ((HSB.out w.drew).mono ?_)
  rintro e Z ⟨rfl, hb7⟩
  have hbZ : Below w.heap.size w Z := ((Below.refl _ w).drew).trans hb7
  have qZ := HQ.out Z (fun b hb => hbZ.block b (HNO.out b hb).1)
  refine ⟨_, rfl, fun _ => qZ, ?_⟩
  simp only [Act.put, List.setIfInBounds_toArray, List.set_cons_zero, List.set_cons_succ]
  refine oneL (i := 8) (o := { dst := some 12, op := Go.Op.call { callee := Go.Callee.value (Go.Operand.func 58), args := #[Go.Operand.tmp 4, Go.Operand.tmp 6, Go.Operand.tmp 11], argTypes := #[31, 3, 56] }, type := 28, pos := "journal.go:163", after := #[{ on := 0, ground := Go.Ground.data }, { on := 2, ground := Go.Ground.data }, { on := 7, ground := Go.Ground.data }, { on := 7, ground := Go.Ground.chain }], guard := none }) rfl (by kernel_rfl) rfl ?_
  refine wp_by_call (f := 58) (args := #[ptr jB, .int .i64 (place : Nat), .agg (vals8 (sbL num fin)).toArray]) (by go_simp) ((HW.out Z hbZ).mono ?_)
  rintro e Y ⟨rfl, p', hd', hs'⟩
  have qY := HQ.out Y (fun b hb => (hs'.upd.block b (by have := (HNO.out b hb).1; have := hbZ.size; omega) (HNO.out b hb).2).trans (hbZ.block b (HNO.out b hb).1))
  have HF := Lib.hid (show ∃ p', DevAt Y p' d' ∧ Step p p' w Y from ⟨p', hd', (Step.of p hbZ).trans hs'⟩)
  clear hd' hs' q0 hb7
  refine ⟨_, rfl, fun _ => qY, ?_⟩
  simp only [Act.put, List.setIfInBounds_toArray, List.set_cons_zero, List.set_cons_succ]
  refine oneL (i := 9) (o := { dst := some 3, op := Go.Op.assign (Go.Operand.tmp 12), type := 28, pos := "journal.go:163", after := #[{ on := 8, ground := Go.Ground.data }, { on := 8, ground := Go.Ground.chain }, { on := 0, ground := Go.Ground.phase }, { on := 1, ground := Go.Ground.phase }, { on := 2, ground := Go.Ground.phase }, { on := 3, ground := Go.Ground.phase }, { on := 4, ground := Go.Ground.phase }, { on := 5, ground := Go.Ground.phase }, { on := 6, ground := Go.Ground.phase }, { on := 7, ground := Go.Ground.phase }, { on := 8, ground := Go.Ground.phase }], guard := none }) rfl (by kernel_rfl) rfl ?_
  refine wp_by_run (w' := Y) (v := .int .i64 E) (by go_simp) ⟨fun h => absurd rfl h, ?_⟩
  simp only [Act.put, List.setIfInBounds_toArray, List.set_cons_zero, List.set_cons_succ]
  refine doneL (by kernel_rfl) (Calm.normal ?_) _
  go_wp2
  go_ret
  exact ⟨rfl, HF.out⟩
end Go.Proofs.Ytpcbolmidnoaiaa

/- The steps of a commit, as store calls them. -/
set_option linter.unusedVariables false
set_option linter.unusedSimpArgs false
namespace Go.Proofs.Ytpcbolmidnoaiaa
open Go.RowKit Go.Shelf
theorem framesL_app (a b : List (List Int)) : framesL (a ++ b) = framesL a ++ framesL b := by unfold framesL; rw [List.map_append, List.flatten_append]
/-- What a commit writes behind the durable bytes, from the sector on that they do not fill. -/
def logX (J : Jv) : List Int := partL J.recs ++ framesL J.wait
theorem logX_eq (J : Jv) : logX J = (framesL (J.recs ++ J.wait)).drop (sizeN J.recs / 128 * 128) := by
  unfold logX partL
  rw [framesL_app, List.drop_append, framesL_len]
  rw [show sizeN J.recs / 128 * 128 - sizeN J.recs = 0 by omega, List.drop_zero]
theorem logX_len (J : Jv) : (logX J).length = sizeN J.recs % 128 + sizeN J.wait := by
  rw [logX_eq, List.length_drop, framesL_len, sizeN_app]; omega
theorem logX_part (J : Jv) : (logX J).drop ((logX J).length / 128 * 128) = partL (J.recs ++ J.wait) := by
  rw [logX_len, logX_eq, List.drop_drop]
  unfold partL
  rw [sizeN_app]
  congr 1
  omega
/-- The device behind k steps of a commit. -/
def comD (d : Dv) (J : Jv) : Nat → Dv
  | 0 => d
  | 1 => wrsN d (2 + sizeN J.recs / 128) (logX J) (nSec (logX J))
  | 2 => (wrsN d (2 + sizeN J.recs / 128) (logX J) (nSec (logX J))).flush
  | 3 => ((wrsN d (2 + sizeN J.recs / 128) (logX J) (nSec (logX J))).flush).write ((1 - J.place : Nat) : Int) (sbL (J.top + 1) (sizeN J.recs + sizeN J.wait))
  | _ => (((wrsN d (2 + sizeN J.recs / 128) (logX J) (nSec (logX J))).flush).write ((1 - J.place : Nat) : Int) (sbL (J.top + 1) (sizeN J.recs + sizeN J.wait))).flush
theorem flush_downs {d : Dv} (h : d.down = true) : d.flush = d := by unfold Dv.flush; rw [if_pos h]
theorem comD_down {d : Dv} {J : Jv} : ∀ k, 1 ≤ k → k ≤ 4 → (comD d J k).down = true → comD d J 4 = comD d J k := by
  intro k h1 h4 hd
  have e4 : comD d J 4 = (comD d J 3).flush := rfl
  have e3 : comD d J 3 = (comD d J 2).write ((1 - J.place : Nat) : Int) (sbL (J.top + 1) (sizeN J.recs + sizeN J.wait)) := rfl
  have e2 : comD d J 2 = (comD d J 1).flush := rfl
  rcases (show k = 1 ∨ k = 2 ∨ k = 3 ∨ k = 4 by omega) with rfl | rfl | rfl | rfl
  · rw [e4, e3, e2, flush_downs hd, write_downs hd, flush_downs hd]
  · rw [e4, e3, write_downs hd, flush_downs hd]
  · rw [e4, flush_downs hd]
  · rfl
theorem flush_up {d : Dv} (h : d.flush.down = false) : d.flush.cache = [] ∧ d.flush.safe.length = d.safe.length := by
  unfold Dv.flush at h ⊢
  cases hd : d.down
  · rw [hd, if_neg (by simp)] at h
    rw [if_neg (by simp)]
    cases hk : d.counted.down
    · rw [if_neg (by simp)]
      exact ⟨rfl, putAll_len _ _⟩
    · rw [hk, if_pos rfl, hk] at h
      cases h
  · rw [hd, if_pos rfl, hd] at h
    cases h
theorem flush_calls (d : Dv) : d.flush.calls ≤ d.calls + 1 := by
  unfold Dv.flush
  split
  · omega
  · split
    · show d.calls + 1 ≤ _; omega
    · show d.calls + 1 ≤ _; omega
theorem write_calls (d : Dv) (n : Int) (L : List Int) : (d.write n L).calls ≤ d.calls + 1 ∧ (d.write n L).safe.length = d.safe.length := by
  unfold Dv.write
  split
  · exact ⟨by omega, rfl⟩
  · exact ⟨by show d.calls + 1 ≤ _; omega, rfl⟩
theorem comD_calls (d : Dv) (J : Jv) (hn : nSec (logX J) ≤ 256) : ∀ k, k ≤ 4 → (comD d J k).calls ≤ d.calls + 300 := by
  have h1 := (wrsN_len d (2 + sizeN J.recs / 128) (logX J) (nSec (logX J))).2.2
  have e1 : comD d J 1 = wrsN d (2 + sizeN J.recs / 128) (logX J) (nSec (logX J)) := rfl
  have e4 : comD d J 4 = (comD d J 3).flush := rfl
  have e3 : comD d J 3 = (comD d J 2).write ((1 - J.place : Nat) : Int) (sbL (J.top + 1) (sizeN J.recs + sizeN J.wait)) := rfl
  have e2 : comD d J 2 = (comD d J 1).flush := rfl
  have h2 := flush_calls (comD d J 1)
  have h3 := (write_calls (comD d J 2) ((1 - J.place : Nat) : Int) (sbL (J.top + 1) (sizeN J.recs + sizeN J.wait))).1
  have h4 := flush_calls (comD d J 3)
  rw [← e1] at h1
  rw [← e2] at h2
  rw [← e3] at h3
  rw [← e4] at h4
  intro k hk
  rcases (show k = 0 ∨ k = 1 ∨ k = 2 ∨ k = 3 ∨ k = 4 by omega) with rfl | rfl | rfl | rfl | rfl
  · show d.calls ≤ _; omega
  · omega
  · omega
  · omega
  · omega
/-- The world in which the steps run. -/
structure StW (w X : World) (p : Pl) (j : JPl) (d : Dv) (J : Jv) (a5 : Option Addr) (lx c5 b5 b6 b7 fin q T : Nat) : Prop where
  dev : DevAt X p d
  jat : JAt X p.D j J
  up : d.down = false
  cache : d.cache = []
  len : d.safe.length = J.len
  calls : d.calls < 1000000000000000000
  nsec : nSec (logX J) ≤ 256
  top : J.top < 900
  low : ∀ k, own p k → k < w.heap.size
  sz : w.heap.size ≤ b5 ∧ w.heap.size ≤ b6 ∧ w.heap.size ≤ b7 ∧ w.heap.size ≤ X.heap.size
  x0 : At 31 X w.heap.size #[ptr j.B]
  x5 : At 23 X b5 #[.slice a5 lx c5]
  x6 : At 3 X b6 #[.int .i64 (fin : Nat)]
  x7 : At 62 X b7 #[.int .i64 (q : Nat), .int .u64 (T : Nat), .int .u64 (T : Nat)]
  log : Own8 w.heap.size X (.slice a5 lx c5) (logX J)
  lx : lx = (logX J).length
  fin : fin = sizeN J.recs + sizeN J.wait
  q : q = 1 - J.place
  T : T = J.top + 1
section
variable {w X W : World} {p p1 : Pl} {j : JPl} {d : Dv} {J : Jv} {a5 : Option Addr} {lx c5 b5 b6 b7 fin q T : Nat}
theorem StW.new (h : StW w X p j d J a5 lx c5 b5 b6 b7 fin q T) : ∀ k, w.heap.size ≤ k → ¬ own p k := fun k hk ho => by have := h.low k ho; omega
theorem StW.new1 (h : StW w X p j d J a5 lx c5 b5 b6 b7 fin q T) (hs : Step p p1 X W) : ∀ k, w.heap.size ≤ k → k < X.heap.size → ¬ own p1 k := fun k hk hX ho => by
  rcases hs.has k ho with q | q
  · exact h.new k hk q
  · omega
theorem StW.one (h : StW w X p j d J a5 lx c5 b5 b6 b7 fin q T) (hd : DevAt W p1 (comD d J 0)) (hs : Step p p1 X W) :
    Calls Try.prog 53 #[.pointer (some ⟨w.heap.size, 0, none⟩), .pointer (some ⟨b5, 0, none⟩)] W fun e w' => StE W w' p1 (comD d J 1) e := by
  have hj := h.jat.step h.dev hs
  have hO : Own8 w.heap.size W (.slice a5 lx c5) (logX J) := h.log.keep (fun k h1 h2 _ => hs.upd.block k h2 (h.new k h1))
  have hfit := h.jat.ok.fits
  have hln := h.jat.ok.len
  have hll := logX_len J
  have hlx := h.lx
  refine stepW_any j.B w.heap.size b5 a5 lx c5 W p1 _ ((h.x0.upd hs.upd (h.new _ (Nat.le_refl _))).cell 0) ((h.x5.upd hs.upd (h.new _ h.sz.1)).cell 0) ?_
  refine writeLog_any p1 d j.B _ W hd hj.jr (by rw [hs.D]; rfl) (sizeN J.recs / 128) (sizeN J.recs) rfl rfl (by omega) (logX J) a5 lx c5 hO.bys hlx hO.cap (by omega) (fun k hk => ?_) h.up ?_ ?_ (by have := h.calls; omega)
  · have h1 := hO.row k hk
    have h2 : k < X.heap.size := by
      rcases h.log.2.2 with ⟨e, _⟩ | ⟨g, cap, cur, e, _, hh, _⟩
      · rw [e] at hk; cases hk
      · rw [e] at hk; cases hk; exact (Array.getElem?_eq_some_iff.1 hh).1
    exact ⟨Nat.lt_of_lt_of_le h2 hs.upd.size, h.new1 hs k h1 h2⟩
  · rw [h.len]; unfold nSec; rw [hll]; omega
  · rw [h.cache]; have := h.nsec; simpa using this
theorem StW.two (h : StW w X p j d J a5 lx c5 b5 b6 b7 fin q T) (hd : DevAt W p1 (comD d J 1)) (hs : Step p p1 X W) :
    Calls Try.prog 55 #[.pointer (some ⟨w.heap.size, 0, none⟩)] W fun e w' => StE W w' p1 (comD d J 2) e := by
  have hj := h.jat.step h.dev hs
  have hc := comD_calls d J h.nsec 1 (by omega)
  exact stepF2_any j.B w.heap.size W p1 (comD d J 1) ((h.x0.upd hs.upd (h.new _ (Nat.le_refl _))).cell 0) (by rw [hs.D]; exact hj.jr.cell 0) hd (by have := h.calls; omega)
theorem StW.four (h : StW w X p j d J a5 lx c5 b5 b6 b7 fin q T) (hd : DevAt W p1 (comD d J 3)) (hs : Step p p1 X W) :
    Calls Try.prog 60 #[.pointer (some ⟨w.heap.size, 0, none⟩)] W fun e w' => StE W w' p1 (comD d J 4) e := by
  have hj := h.jat.step h.dev hs
  have hc := comD_calls d J h.nsec 3 (by omega)
  exact stepF4_any j.B w.heap.size W p1 (comD d J 3) ((h.x0.upd hs.upd (h.new _ (Nat.le_refl _))).cell 0) (by rw [hs.D]; exact hj.jr.cell 0) hd (by have := h.calls; omega)
theorem StW.three (h : StW w X p j d J a5 lx c5 b5 b6 b7 fin q T) (hd : DevAt W p1 (comD d J 2)) (hup : (comD d J 2).down = false) (hs : Step p p1 X W) :
    Calls Try.prog 57 #[.pointer (some ⟨w.heap.size, 0, none⟩), .pointer (some ⟨b7, 0, none⟩), .pointer (some ⟨b6, 0, none⟩)] W fun e w' => StE W w' p1 (comD d J 3) e := by
  have hj := h.jat.step h.dev hs
  have hc := comD_calls d J h.nsec 2 (by omega)
  have hfit := h.jat.ok.fits
  have hln := h.jat.ok.len
  obtain ⟨hf1, hf2⟩ := flush_up (d := comD d J 1) hup
  have hl1 : (comD d J 1).safe.length = d.safe.length := (wrsN_len d (2 + sizeN J.recs / 128) (logX J) (nSec (logX J))).1
  have hsz := hs.upd.size
  refine stepS_any j.B w.heap.size b7 b6 q T T fin W p1 _ ((h.x0.upd hs.upd (h.new _ (Nat.le_refl _))).cell 0) ((h.x7.upd hs.upd (h.new _ h.sz.2.2.1)).cell 0) ((h.x7.upd hs.upd (h.new _ h.sz.2.2.1)).cell 1) ((h.x6.upd hs.upd (h.new _ h.sz.2.1)).cell 0) (by have := h.T; have := h.top; omega) (by have := h.fin; omega) ?_ ?_
  · rintro b (rfl | rfl | rfl)
    · exact ⟨Nat.lt_of_lt_of_le h.x0.lt hsz, h.new1 hs _ (Nat.le_refl _) h.x0.lt⟩
    · exact ⟨Nat.lt_of_lt_of_le h.x7.lt hsz, h.new1 hs _ h.sz.2.2.1 h.x7.lt⟩
    · exact ⟨Nat.lt_of_lt_of_le h.x6.lt hsz, h.new1 hs _ h.sz.2.1 h.x6.lt⟩
  · intro Z hZ
    have hac : accE (comD d J 2) ((q : Nat) : Int) = 0 := by
      unfold accE
      rw [hup, if_neg (by decide), if_pos]
      refine ⟨by omega, ?_⟩
      rw [show (comD d J 2).safe.length = d.safe.length from hf2.trans hl1, h.len]
      have := h.q; omega
    have hr := jwrite_any p1 (comD d J 2) j.B _ Z (hd.below hZ) (hj.jr.below hj.jr.lt hZ) (by rw [hs.D]; rfl) ((q : Nat) : Int) hac (sbL T fin) (sbL_sec T fin) (by rw [show (comD d J 2).cache = [] from hf1]; decide) (by have := h.calls; omega)
    refine hr.mono (fun e w' hr' => ?_)
    obtain ⟨e1, p', e2, e3, _⟩ := hr'
    have e4 : (comD d J 2).write ((q : Nat) : Int) (sbL T fin) = comD d J 3 := by rw [h.q, h.T, h.fin]; rfl
    rw [e4] at e1 e2
    exact ⟨e1, p', e2, e3⟩
end
end Go.Proofs.Ytpcbolmidnoaiaa

/- What a commit leaves of the journal. -/
set_option linter.unusedVariables false
set_option linter.unusedSimpArgs false
namespace Go.Proofs.Ytpcbolmidnoaiaa
open Go.RowKit Go.Shelf
def Jv.stored (J : Jv) : Jv := { J with recs := J.recs ++ J.wait, wait := [], place := 1 - J.place, num := J.top + 1, top := J.top + 1 }
theorem jmade_raw {w : World} {jB D : Nat} {cs : Array Value} (hj : At 72 w jB cs) (h0 : cs[0]? = some (ptr D)) : Calls Try.prog 35 #[ptr jB] w fun e w' => e = .returned (.bool true) ∧ w = w' := by
  have c0 : w.cell? ⟨jB, 0, none⟩ = some (ptr D) := by rw [hj.cell]; exact h0
  clear hj h0
  go_enter Try.func35, Try.ntmps35
  go_wp2
  go_ret
  exact ⟨rfl, rfl⟩
theorem forget_raw {w : World} {jB D : Nat} {cs : Array Value} (hj : At 72 w jB cs) (h0 : cs[0]? = some (ptr D)) {a : Option Addr} {n c : Nat} (h4 : cs[4]? = some (.slice a n c)) {x : Value} (h5 : cs[5]? = some x) :
    Calls Try.prog 21 #[ptr jB] w fun e w' => e = .returned (.int .i64 (n : Nat)) ∧ w' = (w.setCell ⟨jB, 4, none⟩ (Value.slice none 0 0)).setCell ⟨jB, 5, none⟩ (.int .i64 0) := by
  have c4 : w.cell? ⟨jB, 4, none⟩ = some (.slice a n c) := by rw [hj.cell]; exact h4
  have c5 : w.cell? ⟨jB, 5, none⟩ = some x := by rw [hj.cell]; exact h5
  have f4 := hj.free 4
  have f5 := hj.free 5
  have HM := Lib.hid (jmade_raw hj h0)
  clear hj h0 h4 h5
  go_enter Try.func21, Try.ntmps21
  go_wp2_with (first | (go_at_call 35; refine HM.out.mono ?_; rintro e w' ⟨rfl, rfl⟩) | fail)
  go_ret
  exact ⟨rfl, rfl⟩
theorem JAt.rowR {w : World} {D : Nat} {j : JPl} {J : Jv} (h : JAt w D j J) : j.vR.ownBlock ≠ some j.B := fun hk => by
  have hBt := h.jr
  unfold At at hBt
  rcases h.recs.row.2 with ⟨e1, _⟩ | ⟨g, cap, cur, e1, _, hh, _⟩
  · rw [e1] at hk; cases hk
  · rw [e1] at hk
    have e2 : g = j.B := Option.some.inj hk
    rw [e2, hBt] at hh
    simp at hh
/-- The cells of a journal. -/
def jcells (D : Nat) (vR : Value) (e0 : Nat) (vP vW : Value) (f pl num top : Nat) (br : Int) : Array Value := #[ptr D, vR, .int .i64 (e0 : Nat), vP, vW, .int .i64 (f : Nat), .int .i64 (pl : Nat), .int .u64 (num : Nat), .int .u64 (top : Nat), .int .i64 br]
theorem jset1 (D : Nat) (vR : Value) (e0 : Nat) (vP vW : Value) (f pl num top : Nat) (br : Int) (v : Value) : (jcells D vR e0 vP vW f pl num top br).setIfInBounds 1 v = jcells D v e0 vP vW f pl num top br := rfl
theorem jset2 (D : Nat) (vR : Value) (e0 : Nat) (vP vW : Value) (f pl num top : Nat) (br : Int) (e : Nat) : (jcells D vR e0 vP vW f pl num top br).setIfInBounds 2 (.int .i64 (e : Int)) = jcells D vR e vP vW f pl num top br := rfl
theorem jset3 (D : Nat) (vR : Value) (e0 : Nat) (vP vW : Value) (f pl num top : Nat) (br : Int) (v : Value) : (jcells D vR e0 vP vW f pl num top br).setIfInBounds 3 v = jcells D vR e0 v vW f pl num top br := rfl
theorem jset4 (D : Nat) (vR : Value) (e0 : Nat) (vP vW : Value) (f pl num top : Nat) (br : Int) (v : Value) : (jcells D vR e0 vP vW f pl num top br).setIfInBounds 4 v = jcells D vR e0 vP v f pl num top br := rfl
theorem jset5 (D : Nat) (vR : Value) (e0 : Nat) (vP vW : Value) (f pl num top : Nat) (br : Int)  : (jcells D vR e0 vP vW f pl num top br).setIfInBounds 5 (.int .i64 0) = jcells D vR e0 vP vW 0 pl num top br := rfl
theorem jset6 (D : Nat) (vR : Value) (e0 : Nat) (vP vW : Value) (f pl num top : Nat) (br : Int) (e : Nat) : (jcells D vR e0 vP vW f pl num top br).setIfInBounds 6 (.int .i64 (e : Int)) = jcells D vR e0 vP vW f e num top br := rfl
theorem jset7 (D : Nat) (vR : Value) (e0 : Nat) (vP vW : Value) (f pl num top : Nat) (br : Int) (e : Nat) : (jcells D vR e0 vP vW f pl num top br).setIfInBounds 7 (.int .u64 (e : Int)) = jcells D vR e0 vP vW f pl e top br := rfl
theorem jset8 (D : Nat) (vR : Value) (e0 : Nat) (vP vW : Value) (f pl num top : Nat) (br : Int) (e : Nat) : (jcells D vR e0 vP vW f pl num top br).setIfInBounds 8 (.int .u64 (e : Int)) = jcells D vR e0 vP vW f pl num e br := rfl
set_option maxHeartbeats 1000000 in
theorem stored_all {w Z2 W5 : World} {D : Nat} {j : JPl} {J : Jv} (h : JAt w D j J) (htop : J.top < 900) {v' : Value} (hS : SlsAt 0 Z2 v' (j.rs ++ j.ws)) (hg : w.grownBy Z2 j.vR.ownBlock) (hv : v'.ownBlock = j.vR.ownBlock ∨ v'.ownBlock = some w.heap.size) :
    At 72 Z2 j.B (jcells D j.vR (sizeN J.recs) j.vP j.vW (sizeN J.wait) J.place J.num J.top J.broken) ∧
    At 72 (Z2.setCell ⟨j.B, 1, none⟩ v') j.B (jcells D v' (sizeN J.recs) j.vP j.vW (sizeN J.wait) J.place J.num J.top J.broken) ∧
    (∀ W4, W4 = ((Z2.setCell ⟨j.B, 1, none⟩ v').setCell ⟨j.B, 4, none⟩ (Value.slice none 0 0)).setCell ⟨j.B, 5, none⟩ (.int .i64 0) →
      At 72 W4 j.B (jcells D v' (sizeN J.recs) j.vP (Value.slice none 0 0) 0 J.place J.num J.top J.broken) ∧ Upd (jown j) w W4 ∧
      ∀ W5 aQ lQ cQ, Below W4.heap.size W4 W5 → Own8 W4.heap.size W5 (.slice aQ lQ cQ) (partL (J.recs ++ J.wait)) →
        At 72 W5 j.B (jcells D v' (sizeN J.recs) j.vP (Value.slice none 0 0) 0 J.place J.num J.top J.broken) ∧
        At 72 (W5.setCell ⟨j.B, 2, none⟩ (.int .i64 ((sizeN J.recs + sizeN J.wait : Nat) : Int))) j.B (jcells D v' (sizeN J.recs + sizeN J.wait) j.vP (Value.slice none 0 0) 0 J.place J.num J.top J.broken) ∧
        At 72 ((W5.setCell ⟨j.B, 2, none⟩ (.int .i64 ((sizeN J.recs + sizeN J.wait : Nat) : Int))).setCell ⟨j.B, 3, none⟩ (.slice aQ lQ cQ)) j.B (jcells D v' (sizeN J.recs + sizeN J.wait) (.slice aQ lQ cQ) (Value.slice none 0 0) 0 J.place J.num J.top J.broken) ∧
        ∃ j', JAt (((W5.setCell ⟨j.B, 2, none⟩ (.int .i64 ((sizeN J.recs + sizeN J.wait : Nat) : Int))).setCell ⟨j.B, 3, none⟩ (.slice aQ lQ cQ)).setCells j.B 6 [.int .i64 ((1 - J.place : Nat) : Int), .int .u64 ((J.top + 1 : Nat) : Int), .int .u64 ((J.top + 1 : Nat) : Int)]) D j' J.stored ∧ j'.B = j.B ∧
          Upd (jown j) w (((W5.setCell ⟨j.B, 2, none⟩ (.int .i64 ((sizeN J.recs + sizeN J.wait : Nat) : Int))).setCell ⟨j.B, 3, none⟩ (.slice aQ lQ cQ)).setCells j.B 6 [.int .i64 ((1 - J.place : Nat) : Int), .int .u64 ((J.top + 1 : Nat) : Int), .int .u64 ((J.top + 1 : Nat) : Int)]) ∧ (∀ k, jown j' k → jown j k ∨ w.heap.size ≤ k)) := by
  have u2 : Upd (fun k => j.vR.ownBlock = some k) w Z2 := (Upd.refl _ w).grown hg (fun r e => .inl e)
  have a2 : At 72 Z2 j.B (jcells D j.vR (sizeN J.recs) j.vP j.vW (sizeN J.wait) J.place J.num J.top J.broken) := h.jr.upd u2 (fun e => h.rowR e)
  have a3 := a2.set 1 v'
  rw [jset1] at a3
  have u3 : Upd (fun k => k = j.B) Z2 (Z2.setCell ⟨j.B, 1, none⟩ v') := (Upd.refl (fun k => k = j.B) Z2).setCell (p := ⟨j.B, 1, none⟩) (.inl rfl) _
  have hvB : ∀ k, v'.ownBlock = some k → ¬ (k = j.B) := fun k hk e => by
    rcases hv with q | q
    · rw [q, e] at hk; exact h.rowR hk
    · rw [q] at hk
      have e2 : w.heap.size = k := Option.some.inj hk
      have := h.jr.lt
      omega
  refine ⟨a2, a3, ?_⟩
  rintro W4 rfl
  have a4 := (a3.set 4 (Value.slice none 0 0)).set 5 (.int .i64 0)
  rw [jset4, jset5] at a4
  have u4 : Upd (fun k => k = j.B) Z2 (((Z2.setCell ⟨j.B, 1, none⟩ v').setCell ⟨j.B, 4, none⟩ (Value.slice none 0 0)).setCell ⟨j.B, 5, none⟩ (.int .i64 0)) := (u3.setCell (p := ⟨j.B, 4, none⟩) (.inl rfl) _).setCell (p := ⟨j.B, 5, none⟩) (.inl rfl) _
  have uw4 : Upd (jown j) w (((Z2.setCell ⟨j.B, 1, none⟩ v').setCell ⟨j.B, 4, none⟩ (Value.slice none 0 0)).setCell ⟨j.B, 5, none⟩ (.int .i64 0)) := (u2.mono (O' := jown j) (fun k e => .inr (.inl e))).trans u4 (fun k e => .inl (.inl e))
  refine ⟨a4, uw4, ?_⟩
  intro W5 aQ lQ cQ hB hO
  have a5 := a4.below a4.lt hB
  have a6 := a5.set 2 (.int .i64 ((sizeN J.recs + sizeN J.wait : Nat) : Int))
  rw [jset2] at a6
  have a7 := a6.set 3 (.slice aQ lQ cQ)
  rw [jset3] at a7
  refine ⟨a5, a6, a7, ?_⟩
  have a8 := ((a7.set 6 (.int .i64 ((1 - J.place : Nat) : Int))).set 7 (.int .u64 ((J.top + 1 : Nat) : Int))).set 8 (.int .u64 ((J.top + 1 : Nat) : Int))
  rw [jset6, jset7, jset8] at a8
  obtain ⟨V, hV⟩ : ∃ V, V = (((W5.setCell ⟨j.B, 2, none⟩ (.int .i64 ((sizeN J.recs + sizeN J.wait : Nat) : Int))).setCell ⟨j.B, 3, none⟩ (.slice aQ lQ cQ)).setCells j.B 6 [.int .i64 ((1 - J.place : Nat) : Int), .int .u64 ((J.top + 1 : Nat) : Int), .int .u64 ((J.top + 1 : Nat) : Int)]) := ⟨_, rfl⟩
  have u5 : Upd (fun k => k = j.B) W5 V := by
    rw [hV]
    exact ((((Upd.refl (fun k => k = j.B) W5).setCell (p := ⟨j.B, 2, none⟩) (.inl rfl) _).setCell (p := ⟨j.B, 3, none⟩) (.inl rfl) _).setCells (.inl rfl) _ _)
  have a9 : At 72 V j.B (jcells D v' (sizeN J.recs + sizeN J.wait) (.slice aQ lQ cQ) (Value.slice none 0 0) 0 (1 - J.place) (J.top + 1) (J.top + 1) J.broken) := by rw [hV]; simp only [World.setCells, Nat.reduceAdd]; exact a8
  rw [← hV]
  clear hV
  have u2V : Upd (fun k => k = j.B) Z2 V := (u4.trans (Upd.of hB (fun k => k = j.B)) (fun j e => .inl e)).trans u5 (fun j e => .inl e)
  have n8 : ∀ {W : World} {cs}, At 72 W j.B cs → ∀ k cs fr, W.heap[k]? = some (.cells cs 5 fr) → ¬ (k = j.B) := fun hA k cs fr hk e => by
    unfold At at hA
    rw [e, hA] at hk
    simp at hk
  have hs := hg.size
  refine ⟨⟨j.B, v', Value.slice none 0 0, .slice aQ lQ cQ, j.rs ++ j.ws, []⟩, ⟨?_, sls_kept hS u2V hvB (n8 a2), SlsAt.nil 0 _, own8_kept (hO.le (Nat.zero_le _)) u5 (n8 a5), ?_, rfl, fun k _ e => (by cases e), ?_⟩, rfl, uw4.trans ((Upd.of hB (fun k => k = j.B)).trans u5 (fun j e => .inl e)) (fun k e => .inl (.inl e)), ?_⟩
  · have e9 : sizeN (J.recs ++ J.wait) = sizeN J.recs + sizeN J.wait := sizeN_app _ _
    show At _ V j.B #[ptr D, v', .int .i64 (sizeN (J.recs ++ J.wait) : Nat), .slice aQ lQ cQ, Value.slice none 0 0, .int .i64 ((0 : Nat) : Int), .int .i64 ((1 - J.place : Nat) : Int), .int .u64 ((J.top + 1 : Nat) : Int), .int .u64 ((J.top + 1 : Nat) : Int), .int .i64 J.broken]
    rw [e9]
    exact a9
  · show (j.rs ++ j.ws).map Sl.L = J.recs ++ J.wait
    rw [List.map_append, h.rl, h.wl]
  · refine ⟨fun L hL => ?_, fun L hL => (by cases hL), by show 1 - J.place ≤ 1; omega, by show J.top + 1 < 1000; omega, by show J.top + 1 < 1000; omega, h.ok.len, ?_⟩
    · rcases List.mem_append.1 hL with q | q
      · exact h.ok.recs L q
      · exact h.ok.wait L q
    · have := h.ok.fits
      show sizeN (J.recs ++ J.wait) + 0 ≤ (J.len - 2) * 128
      rw [sizeN_app]; omega
  · rintro k (q | q | q)
    · exact .inl (.inl q)
    · rcases hv with e | e
      · exact .inl (.inr (.inl (by rw [← e]; exact q)))
      · rw [e] at q
        have e2 : w.heap.size = k := Option.some.inj q
        exact .inr (by omega)
    · cases q
set_option maxHeartbeats 1000000 in
theorem run_all {w : World} {D : Nat} {j : JPl} {J : Jv} (h : JAt w D j J) (h1 : 1 ≤ sizeN J.wait) :
    ∃ (aR : Option Addr) (nR cR gW nW cW : Nat) (a' : Option Addr) (n' c' : Nat) (Z2 : World), j.vR = .slice aR nR cR ∧ j.vW = .slice (some ⟨gW, 0, none⟩) nW cW ∧ (Builtin.append_ #[22, 22] 22 #[.slice aR nR cR, .slice (some ⟨gW, 0, none⟩) nW cW]).run Try.prog w = .ok (.slice a' n' c') Z2 ∧
      SlsAt 0 Z2 (.slice a' n' c') (j.rs ++ j.ws) ∧ w.grownBy Z2 j.vR.ownBlock ∧ ((Value.slice a' n' c').ownBlock = j.vR.ownBlock ∨ (Value.slice a' n' c').ownBlock = some w.heap.size) := by
  have hlr : j.rs.length = J.recs.length := by rw [← h.rl, List.length_map]
  have hlw : j.ws.length = J.wait.length := by rw [← h.wl, List.length_map]
  have hs := h.ok.sizes
  have l1 := sizeN_len J.recs
  have l2 := sizeN_len J.wait
  obtain ⟨aR, cR, hvR, _⟩ := h.recs.form
  rcases h.wait.row.2 with ⟨e, e2⟩ | ⟨g, cap, cur, e, hg, hb, hn, hmx, hsz, ht⟩
  · have : J.wait = [] := List.eq_nil_of_length_eq_zero (by omega)
    rw [this] at h1
    have : sizeN [] = 0 := rfl
    omega
  · have hcell : ∀ i u, (valsS j.ws)[i]? = some u → w.cell? (Addr.add ⟨g, 0, none⟩ i) = some u := fun i u hu => by
      have hlt : i < j.ws.length := by
        have := (List.getElem?_eq_some_iff.1 hu).1
        simpa [valsS] using this
      rw [← ht, List.getElem?_take_of_lt (by omega)] at hu
      rw [Addr.add_mid]
      simp only [World.cell?, hb, Nat.zero_add]
      simpa using hu
    obtain ⟨v', Z2, hrun, hS, hgr, hv⟩ := run_pushes 0 22 w j.vR j.rs j.ws h.recs h.wait.each ⟨g, 0, none⟩ cap hcell (by omega) (Nat.zero_le _)
    obtain ⟨a', c', e', _⟩ := hS.form
    rw [e'] at hrun hS hv
    rw [hvR] at hrun
    exact ⟨aR, _, cR, g, _, cap, a', _, c', Z2, hvR, e, hrun, hS, hgr, hv⟩
end Go.Proofs.Ytpcbolmidnoaiaa

/- store. -/
set_option linter.unusedVariables false
set_option linter.unusedSimpArgs false
namespace Go.Proofs.Ytpcbolmidnoaiaa
open Go.RowKit Go.Shelf
theorem exec_store_mid {o : Oper} {a : Act} {x y : Operand} {w : World} {T : TypeId} {b k : Nat} {cells : Array Value} (ho : o.op = .store T x y) (hx : a.eval x = .pointer (some ⟨b, k, none⟩)) (hy : a.eval y = .agg cells) (ht : w.there b k cells.size) (hi : (Try.prog.info? T).map (·.size) = some cells.size) (h1 : cells.all (·.oneCell') = true) :
    (execOp a.eval o).run Try.prog w = .ok .skip (w.setCells b k cells.toList) := by
  unfold execOp
  have := run_storeVar_mid (P := Try.prog) w b k T cells ht hi h1
  simp only [ho, hx, hy, Instr.storeAt, Instr.sureAddr, Sem.run_bind, Sem.run_pure, Result.andThen_ok, this]
theorem there3 {W : World} {b : Nat} {D : Nat} {vR : Value} {e0 : Nat} {vP vW : Value} {f pl num top : Nat} {br : Int} (h : At 72 W b (jcells D vR e0 vP vW f pl num top br)) : W.there b 6 3 := fun i hi => by
  rcases (show i = 0 ∨ i = 1 ∨ i = 2 by omega) with rfl | rfl | rfl <;> exact ⟨by rw [h.cell]; rfl, h.free _⟩
/-- What store leaves. -/
def StoreE (w w' : World) (p : Pl) (j : JPl) (d : Dv) (J : Jv) (e : Ending) : Prop := e = .returned (.int .i64 (downE (comD d J 4).down)) ∧ ∃ p' j', DevAt w' p' (comD d J 4) ∧ JAt w' p'.D j' (if (comD d J 4).down then J else J.stored) ∧ p'.D = p.D ∧ j'.B = j.B ∧
  Upd (fun k => own p k ∨ jown j k) w w' ∧ (∀ k, own p' k → own p k ∨ w.heap.size ≤ k) ∧ (∀ k, jown j' k → jown j k ∨ w.heap.size ≤ k)
theorem StW.fin_down {w X W : World} {p p1 : Pl} {j : JPl} {d : Dv} {J : Jv} {a5 : Option Addr} {lx c5 b5 b6 b7 fin q T : Nat} (h : StW w X p j d J a5 lx c5 b5 b6 b7 fin q T) (hb : Below w.heap.size w X) {k : Nat} (h1 : 1 ≤ k) (h4 : k ≤ 4) (hdn : (comD d J k).down = true) (hd : DevAt W p1 (comD d J k)) (hs : Step p p1 X W) :
    StoreE w W p j d J (.returned (.int .i64 120)) := by
  have e := comD_down k h1 h4 hdn
  unfold StoreE
  rw [e, hdn, if_pos rfl]
  refine ⟨rfl, p1, j, hd, by rw [hs.D]; exact h.jat.step h.dev hs, hs.D, rfl, (Upd.of hb _).trans hs.upd (fun k e => .inl (.inl e)), fun k hk => (hs.has k hk).elim .inl (fun e => .inr (by have := hb.size; omega)), fun k hk => .inl hk⟩
set_option maxRecDepth 100000 in
set_option maxHeartbeats 4000000 in
theorem store_any (p : Pl) (j : JPl) (d : Dv) (J : Jv) (w : World) (hd : DevAt w p d) (h : JAt w p.D j J) (hup : d.down = false) (hcache : d.cache = []) (hlen : d.safe.length = J.len) (hcalls : d.calls < 1000000000000000000) (hns : nSec (logX J) ≤ 256) (hw1 : 1 ≤ sizeN J.wait) (htop : J.top < 900)
    (a : Option Addr) (m c : Nat) (hF : Bys8 w.heap.size w (.slice a m c) (framesL J.wait)) (hm : m = (framesL J.wait).length) (hmc : m ≤ c) :
    Calls Try.prog 34 #[ptr j.B, .slice a m c] w fun e w' => StoreE w w' p j d J e := by
  obtain ⟨aP, lP, cP, hvP, hPB⟩ : ∃ aP lP cP, j.vP = .slice aP lP cP ∧ Own8 0 w (.slice aP lP cP) (partL J.recs) := by
    rcases h.part.2.2 with ⟨e, _⟩ | ⟨g, cap, cur, e, _⟩
    · exact ⟨none, 0, 0, e, e ▸ h.part⟩
    · exact ⟨_, _, _, e, e ▸ h.part⟩
  have hlP : lP = (partL J.recs).length := by
    obtain ⟨a', c', e⟩ := hPB.form
    cases e; rfl
  have hjl := h.jr.lt
  obtain ⟨Y, hY⟩ : ∃ Y, Y = (w.alloc (.cells #[ptr j.B] 31)).alloc (.cells #[.slice aP lP cP, .slice a m c] 23) := ⟨_, rfl⟩
  have sY : Y.heap.size = w.heap.size + 2 := by rw [hY]; simp
  have bY : Below w.heap.size w Y := by rw [hY]; exact ((Below.refl _ w).alloc (Nat.le_refl _) _).alloc (by simp) _
  have y0 : At 31 Y w.heap.size #[ptr j.B] := by rw [hY]; exact (At.new _ w _).below (B := w.heap.size + 1) (by omega) ((Below.refl _ _).alloc (by simp) _)
  have y1 : At 23 Y (w.heap.size + 1) #[.slice aP lP cP, .slice a m c] := by rw [hY]; have := At.new 23 (w.alloc (.cells #[ptr j.B] 31)) #[.slice aP lP cP, .slice a m c]; rwa [World.size_alloc] at this
  have hX6 : (logX J).length ≤ 600000 ∧ 1 ≤ (logX J).length := by rw [logX_len]; have := h.ok.fits; have := h.ok.len; omega
  have hcat := concat8_any (some ⟨w.heap.size + 1, 0, none⟩) 2 2 [partL J.recs, framesL J.wait] rfl (by omega) (by show 1 ≤ (partL J.recs ++ (framesL J.wait ++ [])).length; rw [List.append_nil]; exact hX6.2) (by show (partL J.recs ++ (framesL J.wait ++ [])).length ≤ _; rw [List.append_nil]; exact Nat.le_trans hX6.1 (by omega)) Y
    (fun i L hi => by
      rcases i with _ | _ | i
      · cases hi
        refine ⟨w.heap.size + 1, 0, aP, cP, rfl, by omega, by rw [y1.cell, hlP]; rfl, ?_, ?_⟩
        · rw [← hlP]; exact hPB.cap
        · rw [← hlP]; exact (hPB.bys.below bY).mono bY.size
      · cases hi
        refine ⟨w.heap.size + 1, 0, a, c, rfl, by omega, by rw [y1.cell, hm]; rfl, by rw [← hm]; exact hmc, by rw [← hm]; exact (hF.below bY).mono bY.size⟩
      · cases hi)
  rw [show [partL J.recs, framesL J.wait].flatten = logX J by show partL J.recs ++ (framesL J.wait ++ []) = _; rw [List.append_nil]; rfl] at hcat
  obtain ⟨lx, hlx⟩ : ∃ lx, (logX J).length = lx := ⟨_, rfl⟩
  unfold Made at hcat
  rw [hlx] at hcat hX6
  have HCAT := Lib.hid hcat
  rw [hY] at HCAT
  have HY := Lib.hid hY
  obtain ⟨e0, he0⟩ : ∃ e0, sizeN J.recs = e0 := ⟨_, rfl⟩
  obtain ⟨fin, hfin⟩ : ∃ fin, sizeN J.recs + sizeN J.wait = fin := ⟨_, rfl⟩
  have hm2 : m = sizeN J.wait := by rw [hm, framesL_len]
  have hf6 : e0 + m = fin ∧ fin ≤ 600000 := by have := h.ok.fits; have := h.ok.len; omega
  have k2 : w.cell? ⟨j.B, 2, none⟩ = some (.int .i64 (e0 : Nat)) := by rw [← he0]; exact h.jr.cell 2
  have HR := Lib.hid (show ∀ Z, Below w.heap.size w Z → Z.rangeAt j.B 6 [.int .i64 (J.place : Nat), .int .u64 (J.num : Nat), .int .u64 (J.top : Nat)] from fun Z hZ i v hv => by
    have h9 := h.jr.below hjl hZ
    rcases i with _ | _ | _ | i
    · cases hv; exact h9.cell 6
    · cases hv; exact h9.cell 7
    · cases hv; exact h9.cell 8
    · cases hv)
  obtain ⟨pq, hpq⟩ : ∃ pq, 1 - J.place = pq := ⟨_, rfl⟩
  obtain ⟨T, hT⟩ : ∃ T, J.top + 1 = T := ⟨_, rfl⟩
  have hNX := fun Z => next_any J.place J.num J.top h.ok.place (by omega) Z
  rw [hpq, hT] at hNX
  have HNX := Lib.hid hNX
  have HPT := Lib.hid (And.intro hpq hT)
  have wF : wrap64 ((e0 : Int) + (m : Int)) = ((fin : Nat) : Int) := by
    rw [show (e0 : Int) + (m : Int) = (fin : Int) by omega]; exact wrap_nat (by omega)
  have HFI := Lib.hid (And.intro he0 (And.intro hfin (And.intro hm2 hf6)))
  have k3 : w.cell? ⟨j.B, 3, none⟩ = some (.slice aP lP cP) := by rw [← hvP]; exact h.jr.cell 3
  have H1 := Lib.hid (And.intro sY (And.intro bY y0))
  have H2 := Lib.hid (And.intro hd (And.intro h (And.intro hup (And.intro hcache (And.intro hlen (And.intro hcalls (And.intro hns (And.intro hw1 (And.intro htop (And.intro hX6 hlx))))))))))
  clear hNX hpq hT he0 hfin hm2 hf6 hd h hup hcache hlen hcalls hns hw1 htop hX6 hlx sY bY y0 y1 hcat hY hF hm hmc hlP hPB hvP
  go_enter Try.func34, Try.ntmps34
  go_wp2_with (first
    | (go_at_call 51; (with_reducible refine HCAT.out.mono ?_); rintro e W1 ⟨a5, c5, rfl, hO5, hB5⟩; (rw [← HY.out, H1.out.1] at hO5 hB5)
       have b1 : Below w.heap.size w W1 := H1.out.2.1.trans (hB5.mono (by omega))
       have s1 := hB5.size
       (rw [H1.out.1] at s1)
       have bV : Below w.heap.size w (W1.alloc (.cells #[.slice a5 lx c5] 23)) := b1.alloc b1.size _
       have y0 : At 31 W1 w.heap.size #[ptr j.B] := H1.out.2.2.below (B := w.heap.size + 2) (by omega) hB5
       have y0V : At 31 (W1.alloc (.cells #[.slice a5 lx c5] 23)) w.heap.size #[ptr j.B] := y0.below (B := w.heap.size + 2) (by omega) ((Below.refl _ _).alloc s1 _)
       have g0 : (W1.alloc (.cells #[.slice a5 lx c5] 23)).cell? ⟨w.heap.size, 0, none⟩ = some (ptr j.B) := y0V.cell 0
       have g2 : (W1.alloc (.cells #[.slice a5 lx c5] 23)).cell? ⟨j.B, 2, none⟩ = some (.int .i64 (e0 : Nat)) := (bV.cell (p := ⟨j.B, 2, none⟩) hjl).trans k2
       have sV : (W1.alloc (.cells #[.slice a5 lx c5] 23)).heap.size = W1.heap.size + 1 := by rw [World.size_alloc]
       have bV2 : Below (w.heap.size + 2) (W1.alloc (.cells #[.slice a5 lx c5] 23)) ((W1.alloc (.cells #[.slice a5 lx c5] 23)).alloc (.cells #[.int .i64 (fin : Nat)] 3)) := (Below.refl _ _).alloc (by omega) _
       have y02 := y0V.below (B := w.heap.size + 2) (by omega) bV2
       have g02 : ((W1.alloc (.cells #[.slice a5 lx c5] 23)).alloc (.cells #[.int .i64 (fin : Nat)] 3)).cell? ⟨w.heap.size, 0, none⟩ = some (ptr j.B) := y02.cell 0
       have HRV := Lib.hid (HR.out _ (bV.trans (bV2.mono (by omega))))
       have HO5 := Lib.hid (And.intro hO5 (And.intro hB5 (And.intro s1 (And.intro b1 (And.intro y02 (bV.trans (bV2.mono (by omega)))))))); clear hO5 hB5 s1 b1 y0 y0V sV bV2 y02 bV)
    | (refine wpList_load_mid rfl 62 _ rfl j.B 6 rfl [.int .i64 (J.place : Nat), .int .u64 (J.num : Nat), .int .u64 (J.top : Nat)] _ HRV.out Try.underlying62 rfl head_size ?_)
    | (go_at_call 52; (with_reducible refine (HNX.out _).mono ?_); rintro e W2 ⟨rfl, hB2⟩; have HB2 := Lib.hid hB2; clear hB2)
    | fail)
  clear g0 g02 g2 wF k2 k3
  obtain ⟨X, hX⟩ : ∃ X, X = (W2.alloc (.cells #[.int .i64 (pq : Nat), .int .u64 (T : Nat), .int .u64 (T : Nat)] 62)).alloc (.cells #[.func (.func 53) #[] #[.pointer (some ⟨w.heap.size, 0, none⟩), .pointer (some ⟨W1.heap.size, 0, none⟩)], .func (.func 55) #[] #[.pointer (some ⟨w.heap.size, 0, none⟩)], .func (.func 57) #[] #[.pointer (some ⟨w.heap.size, 0, none⟩), .pointer (some ⟨W2.heap.size, 0, none⟩), .pointer (some ⟨W1.heap.size + 1, 0, none⟩)], .func (.func 60) #[] #[.pointer (some ⟨w.heap.size, 0, none⟩)]] 35) := ⟨_, rfl⟩
  have sX : X.heap.size = W2.heap.size + 2 := by rw [hX]; simp
  have HST := Lib.hid (show StW w X p j d J a5 lx c5 W1.heap.size (W1.heap.size + 1) W2.heap.size fin pq T ∧ Below w.heap.size w X ∧ At 35 X (W2.heap.size + 1) #[.func (.func 53) #[] #[.pointer (some ⟨w.heap.size, 0, none⟩), .pointer (some ⟨W1.heap.size, 0, none⟩)], .func (.func 55) #[] #[.pointer (some ⟨w.heap.size, 0, none⟩)], .func (.func 57) #[] #[.pointer (some ⟨w.heap.size, 0, none⟩), .pointer (some ⟨W2.heap.size, 0, none⟩), .pointer (some ⟨W1.heap.size + 1, 0, none⟩)], .func (.func 60) #[] #[.pointer (some ⟨w.heap.size, 0, none⟩)]] from by
    obtain ⟨hO5, hB5, s1, b1, y02, bV2⟩ := HO5.out
    obtain ⟨hd, h, hup, hcache, hlen, hcalls, hns, hw1, htop, hX6, hlx⟩ := H2.out
    obtain ⟨he0, hfin, hm2, hf6⟩ := HFI.out
    have hB2 := HB2.out
    have sV2 : ((W1.alloc (.cells #[.slice a5 lx c5] 23)).alloc (.cells #[.int .i64 (fin : Nat)] 3)).heap.size = W1.heap.size + 2 := by simp
    rw [sV2] at hB2
    have s2 := hB2.size
    rw [sV2] at s2
    have bX2 : Below W2.heap.size W2 X := by rw [hX]; exact ((Below.refl _ W2).alloc (Nat.le_refl _) _).alloc (by simp) _
    have bVX := hB2.trans (bX2.mono s2)
    have bX : Below w.heap.size w X := bV2.trans (bVX.mono (by omega))
    have z5 : At 23 ((W1.alloc (.cells #[.slice a5 lx c5] 23)).alloc (.cells #[.int .i64 (fin : Nat)] 3)) W1.heap.size #[.slice a5 lx c5] := (At.new _ W1 _).below (B := W1.heap.size + 1) (by omega) ((Below.refl _ _).alloc (by simp) _)
    have z6 : At 3 ((W1.alloc (.cells #[.slice a5 lx c5] 23)).alloc (.cells #[.int .i64 (fin : Nat)] 3)) (W1.heap.size + 1) #[.int .i64 (fin : Nat)] := by have := At.new 3 (W1.alloc (.cells #[.slice a5 lx c5] 23)) #[.int .i64 (fin : Nat)]; rwa [World.size_alloc] at this
    have z7 : At 62 X W2.heap.size #[.int .i64 (pq : Nat), .int .u64 (T : Nat), .int .u64 (T : Nat)] := by rw [hX]; exact (At.new _ W2 _).below (B := W2.heap.size + 1) (by omega) ((Below.refl _ _).alloc (by simp) _)
    have z8 : At 35 X (W2.heap.size + 1) #[.func (.func 53) #[] #[.pointer (some ⟨w.heap.size, 0, none⟩), .pointer (some ⟨W1.heap.size, 0, none⟩)], .func (.func 55) #[] #[.pointer (some ⟨w.heap.size, 0, none⟩)], .func (.func 57) #[] #[.pointer (some ⟨w.heap.size, 0, none⟩), .pointer (some ⟨W2.heap.size, 0, none⟩), .pointer (some ⟨W1.heap.size + 1, 0, none⟩)], .func (.func 60) #[] #[.pointer (some ⟨w.heap.size, 0, none⟩)]] := by rw [hX]; have := At.new 35 (W2.alloc (.cells #[.int .i64 (pq : Nat), .int .u64 (T : Nat), .int .u64 (T : Nat)] 62)) #[.func (.func 53) #[] #[.pointer (some ⟨w.heap.size, 0, none⟩), .pointer (some ⟨W1.heap.size, 0, none⟩)], .func (.func 55) #[] #[.pointer (some ⟨w.heap.size, 0, none⟩)], .func (.func 57) #[] #[.pointer (some ⟨w.heap.size, 0, none⟩), .pointer (some ⟨W2.heap.size, 0, none⟩), .pointer (some ⟨W1.heap.size + 1, 0, none⟩)], .func (.func 60) #[] #[.pointer (some ⟨w.heap.size, 0, none⟩)]]; rwa [World.size_alloc] at this
    have bV : Below W1.heap.size W1 ((W1.alloc (.cells #[.slice a5 lx c5] 23)).alloc (.cells #[.int .i64 (fin : Nat)] 3)) := ((Below.refl _ W1).alloc (Nat.le_refl _) _).alloc (by simp) _
    refine ⟨⟨hd.below bX, h.below bX, hup, hcache, hlen, hcalls, hns, htop, hd.lt, ⟨by omega, by omega, by omega, by omega⟩, y02.below (B := W1.heap.size + 2) (by omega) bVX, z5.below (B := W1.heap.size + 2) (by omega) bVX, z6.below (B := W1.heap.size + 2) (by omega) bVX, z7, ?_, hlx.symm, hfin.symm, HPT.out.1.symm, HPT.out.2.symm⟩, bX, z8⟩
    exact (hO5.le (by omega)).below (B := W1.heap.size) (bV.trans (bVX.mono (by omega))) (Nat.le_refl _))
  have HXX := Lib.hid hX
  rw [← hX]
  clear hX
  go_loopw [38] (fun i wr => ∃ (k : Nat) (p1 : Pl), k ≤ 4 ∧ i = .int .i64 (k : Int) ∧ DevAt wr p1 (comD d J k) ∧ (comD d J k).down = false ∧ Step p p1 X wr) (fun i _ => (4 - intOf i).toNat)
  case atStart => exact ⟨0, p, by omega, rfl, HST.out.1.dev, HST.out.1.up, Step.refl _ _⟩
  case round =>
    obtain ⟨k, p1, hk, rfl, hdv, hup, hst⟩ := hrel
    have r8 : At 35 wr (W2.heap.size + 1) #[.func (.func 53) #[] #[.pointer (some ⟨w.heap.size, 0, none⟩), .pointer (some ⟨W1.heap.size, 0, none⟩)], .func (.func 55) #[] #[.pointer (some ⟨w.heap.size, 0, none⟩)], .func (.func 57) #[] #[.pointer (some ⟨w.heap.size, 0, none⟩), .pointer (some ⟨W2.heap.size, 0, none⟩), .pointer (some ⟨W1.heap.size + 1, 0, none⟩)], .func (.func 60) #[] #[.pointer (some ⟨w.heap.size, 0, none⟩)]] := HST.out.2.2.upd hst.upd (HST.out.1.new _ (by have := HST.out.1.sz; omega))
    have HC := Lib.hid (And.intro hdv (And.intro hup hst))
    clear hdv hup hst
    rcases (show k = 0 ∨ k = 1 ∨ k = 2 ∨ k = 3 ∨ k = 4 by omega) with rfl | rfl | rfl | rfl | rfl
    · have c8 : wr.cell? ⟨W2.heap.size + 1, 0, none⟩ = some (.func (.func 53) #[] #[.pointer (some ⟨w.heap.size, 0, none⟩), .pointer (some ⟨W1.heap.size, 0, none⟩)]) := r8.cell 0
      have HS := Lib.hid (HST.out.1.one HC.out.1 HC.out.2.2)
      rw [show ((0 : Nat) : Int) = 0 from rfl]
      unfold StE at HS
      obtain ⟨dn, hdn⟩ : ∃ dn, (comD d J 1).down = dn := ⟨_, rfl⟩
      rw [hdn] at HS
      clear r8
      rcases dn with _ | _
      · have HDN := Lib.hid hdn
        rw [show downE false = 0 from rfl] at HS
        have iy : ((0 : Int) != 0) = false := by decide
        clear hdn
        go_wp2_with (first | (go_at_call 53; (with_reducible refine HS.out.mono ?_); rintro e w1 ⟨rfl, hF⟩; have HF := Lib.hid hF; clear hF) | fail)
        obtain ⟨p2, g1, g2⟩ := HF.out
        go_roundw
        case rel => exact ⟨1, p2, by omega, rfl, g1, HDN.out, HC.out.2.2.trans g2⟩
        case measure => show ((4 : Int) - 1).toNat < ((4 : Int) - 0).toNat; decide
      · have HDN := Lib.hid hdn
        rw [show downE true = 120 from rfl] at HS
        have iy : ((120 : Int) != 0) = true := by decide
        clear hdn
        go_wp2_with (first | (go_at_call 53; (with_reducible refine HS.out.mono ?_); rintro e w1 ⟨rfl, hF⟩; have HF := Lib.hid hF; clear hF) | fail)
        obtain ⟨p2, g1, g2⟩ := HF.out
        go_ret
        exact HST.out.1.fin_down HST.out.2.1 (k := 1) (by omega) (by omega) HDN.out g1 (HC.out.2.2.trans g2)
    · have c8 : wr.cell? ⟨W2.heap.size + 1, 1, none⟩ = some (.func (.func 55) #[] #[.pointer (some ⟨w.heap.size, 0, none⟩)]) := r8.cell 1
      have HS := Lib.hid (HST.out.1.two HC.out.1 HC.out.2.2)
      rw [show ((1 : Nat) : Int) = 1 from rfl]
      unfold StE at HS
      obtain ⟨dn, hdn⟩ : ∃ dn, (comD d J 2).down = dn := ⟨_, rfl⟩
      rw [hdn] at HS
      clear r8
      rcases dn with _ | _
      · have HDN := Lib.hid hdn
        rw [show downE false = 0 from rfl] at HS
        have iy : ((0 : Int) != 0) = false := by decide
        clear hdn
        go_wp2_with (first | (go_at_call 55; (with_reducible refine HS.out.mono ?_); rintro e w1 ⟨rfl, hF⟩; have HF := Lib.hid hF; clear hF) | fail)
        obtain ⟨p2, g1, g2⟩ := HF.out
        go_roundw
        case rel => exact ⟨2, p2, by omega, rfl, g1, HDN.out, HC.out.2.2.trans g2⟩
        case measure => show ((4 : Int) - 2).toNat < ((4 : Int) - 1).toNat; decide
      · have HDN := Lib.hid hdn
        rw [show downE true = 120 from rfl] at HS
        have iy : ((120 : Int) != 0) = true := by decide
        clear hdn
        go_wp2_with (first | (go_at_call 55; (with_reducible refine HS.out.mono ?_); rintro e w1 ⟨rfl, hF⟩; have HF := Lib.hid hF; clear hF) | fail)
        obtain ⟨p2, g1, g2⟩ := HF.out
        go_ret
        exact HST.out.1.fin_down HST.out.2.1 (k := 2) (by omega) (by omega) HDN.out g1 (HC.out.2.2.trans g2)
    · have c8 : wr.cell? ⟨W2.heap.size + 1, 2, none⟩ = some (.func (.func 57) #[] #[.pointer (some ⟨w.heap.size, 0, none⟩), .pointer (some ⟨W2.heap.size, 0, none⟩), .pointer (some ⟨W1.heap.size + 1, 0, none⟩)]) := r8.cell 2
      have HS := Lib.hid (HST.out.1.three HC.out.1 HC.out.2.1 HC.out.2.2)
      rw [show ((2 : Nat) : Int) = 2 from rfl]
      unfold StE at HS
      obtain ⟨dn, hdn⟩ : ∃ dn, (comD d J 3).down = dn := ⟨_, rfl⟩
      rw [hdn] at HS
      clear r8
      rcases dn with _ | _
      · have HDN := Lib.hid hdn
        rw [show downE false = 0 from rfl] at HS
        have iy : ((0 : Int) != 0) = false := by decide
        clear hdn
        go_wp2_with (first | (go_at_call 57; (with_reducible refine HS.out.mono ?_); rintro e w1 ⟨rfl, hF⟩; have HF := Lib.hid hF; clear hF) | fail)
        obtain ⟨p2, g1, g2⟩ := HF.out
        go_roundw
        case rel => exact ⟨3, p2, by omega, rfl, g1, HDN.out, HC.out.2.2.trans g2⟩
        case measure => show ((4 : Int) - 3).toNat < ((4 : Int) - 2).toNat; decide
      · have HDN := Lib.hid hdn
        rw [show downE true = 120 from rfl] at HS
        have iy : ((120 : Int) != 0) = true := by decide
        clear hdn
        go_wp2_with (first | (go_at_call 57; (with_reducible refine HS.out.mono ?_); rintro e w1 ⟨rfl, hF⟩; have HF := Lib.hid hF; clear hF) | fail)
        obtain ⟨p2, g1, g2⟩ := HF.out
        go_ret
        exact HST.out.1.fin_down HST.out.2.1 (k := 3) (by omega) (by omega) HDN.out g1 (HC.out.2.2.trans g2)
    · have c8 : wr.cell? ⟨W2.heap.size + 1, 3, none⟩ = some (.func (.func 60) #[] #[.pointer (some ⟨w.heap.size, 0, none⟩)]) := r8.cell 3
      have HS := Lib.hid (HST.out.1.four HC.out.1 HC.out.2.2)
      rw [show ((3 : Nat) : Int) = 3 from rfl]
      unfold StE at HS
      obtain ⟨dn, hdn⟩ : ∃ dn, (comD d J 4).down = dn := ⟨_, rfl⟩
      rw [hdn] at HS
      clear r8
      rcases dn with _ | _
      · have HDN := Lib.hid hdn
        rw [show downE false = 0 from rfl] at HS
        have iy : ((0 : Int) != 0) = false := by decide
        clear hdn
        go_wp2_with (first | (go_at_call 60; (with_reducible refine HS.out.mono ?_); rintro e w1 ⟨rfl, hF⟩; have HF := Lib.hid hF; clear hF) | fail)
        obtain ⟨p2, g1, g2⟩ := HF.out
        go_roundw
        case rel => exact ⟨4, p2, by omega, rfl, g1, HDN.out, HC.out.2.2.trans g2⟩
        case measure => show ((4 : Int) - 4).toNat < ((4 : Int) - 3).toNat; decide
      · have HDN := Lib.hid hdn
        rw [show downE true = 120 from rfl] at HS
        have iy : ((120 : Int) != 0) = true := by decide
        clear hdn
        go_wp2_with (first | (go_at_call 60; (with_reducible refine HS.out.mono ?_); rintro e w1 ⟨rfl, hF⟩; have HF := Lib.hid hF; clear hF) | fail)
        obtain ⟨p2, g1, g2⟩ := HF.out
        go_ret
        exact HST.out.1.fin_down HST.out.2.1 (k := 4) (by omega) (by omega) HDN.out g1 (HC.out.2.2.trans g2)
    · rw [show ((4 : Nat) : Int) = 4 from rfl]
      have hjt := HST.out.1.jat.step HST.out.1.dev HC.out.2.2
      have hnj : ∀ k, w.heap.size ≤ k → ¬ jown j k := fun k hk hj => by have := H2.out.2.1.lt k hj; omega
      obtain ⟨aR, nR, cR, gW, nW, cW, a', n', c', Z2, hvR, hvW, hrun, hS2, hg2, hv2⟩ := run_all hjt.drew H2.out.2.2.2.2.2.2.2.1
      obtain ⟨a2, a3, hrest⟩ := stored_all (W5 := w) hjt.drew HST.out.1.top hS2 hg2 hv2
      have hEQr : ∀ b, w.heap.size ≤ b → b < X.heap.size → wr.heap[b]? = X.heap[b]? := fun b h1 h2 => HC.out.2.2.upd.block b h2 (HST.out.1.new b h1)
      have hsr := HC.out.2.2.upd.size
      have hnX : w.heap.size < X.heap.size := HST.out.1.x0.lt
      have e0 : At 31 wr w.heap.size #[ptr j.B] := (hEQr _ (Nat.le_refl _) hnX).trans HST.out.1.x0
      have e2 : At 31 Z2 w.heap.size #[ptr j.B] := (hg2.block w.heap.size (by show w.heap.size < wr.heap.size; omega) (fun e => hnj _ (Nat.le_refl _) (.inr (.inl e.symm)))).trans e0
      have q12 : (fun Z : World => Z.cell? ⟨w.heap.size, 0, none⟩ = some (ptr j.B) ∧ Z.cell? ⟨j.B, 1, none⟩ = some (.slice aR nR cR) ∧ Z.cell? ⟨j.B, 4, none⟩ = some (.slice (some ⟨gW, 0, none⟩) nW cW)) wr.drew := ⟨e0.cell 0, by rw [← hvR]; exact hjt.drew.jr.cell 1, by rw [← hvW]; exact hjt.drew.jr.cell 4⟩
      have q12Z : (fun Z : World => Z.cell? ⟨w.heap.size, 0, none⟩ = some (ptr j.B) ∧ Z.cell? ⟨j.B, 1, none⟩ = some (.slice aR nR cR) ∧ Z.cell? ⟨j.B, 4, none⟩ = some (.slice (some ⟨gW, 0, none⟩) nW cW)) Z2 := ⟨e2.cell 0, by rw [← hvR]; exact a2.cell 1, by rw [← hvW]; exact a2.cell 4⟩
      have f12 := a2.free 1
      have HRUN := Lib.hid hrun
      have g13 : (Z2.setCell ⟨j.B, 1, none⟩ (.slice a' n' c')).cell? ⟨w.heap.size, 0, none⟩ = some (ptr j.B) := (e2.other (a := ⟨j.B, 1, none⟩) _ (by show w.heap.size ≠ j.B; omega)).cell 0
      have HFG := Lib.hid (forget_raw a3 rfl (by rw [← hvW]; rfl) rfl)
      have HTL := Lib.hid (show ∀ W4, W4 = ((Z2.setCell ⟨j.B, 1, none⟩ (.slice a' n' c')).setCell ⟨j.B, 4, none⟩ (Value.slice none 0 0)).setCell ⟨j.B, 5, none⟩ (.int .i64 0) → wr.heap.size ≤ W4.heap.size ∧ (∀ b, w.heap.size ≤ b → b < X.heap.size → W4.heap[b]? = X.heap[b]?) ∧ DevAt W4 p1 (comD d J 4) ∧ Upd (fun k => own p k ∨ jown j k) w W4 ∧ Own8 w.heap.size W4 (.slice a5 lx c5) (logX J) from by
        intro W4 h4
        have u4 := (hrest W4 h4).2.1
        have hE4 : ∀ b, w.heap.size ≤ b → b < X.heap.size → W4.heap[b]? = X.heap[b]? := fun b h1 h2 => (u4.block b (by show b < wr.heap.size; omega) (hnj b h1)).trans (hEQr b h1 h2)
        refine ⟨u4.size, hE4, HC.out.1.drew.jupd (D := p1.D) (j := j) (J := J) (by rw [HC.out.2.2.D]; exact hjt.drew) u4 (fun k e => e), ((Upd.of HST.out.2.1 (fun k => own p k ∨ jown j k)).trans HC.out.2.2.upd (fun k e => .inl (.inl e))).trans ((Upd.refl (jown j) wr).drew.trans u4 (fun k e => .inl e)) (fun k e => .inl (.inr e)), ?_⟩
        exact HST.out.1.log.keep (fun k h1 h2 _ => hE4 k h1 h2))
      have HREST := Lib.hid hrest
      clear r8 hjt hnj hvR hvW hrun hS2 hg2 hv2 a2 a3 hrest hEQr hsr e0 e2
      go_wp2_with fail
      refine regionL (fun Z : World => Z.cell? ⟨w.heap.size, 0, none⟩ = some (ptr j.B) ∧ Z.cell? ⟨j.B, 1, none⟩ = some (.slice aR nR cR) ∧ Z.cell? ⟨j.B, 4, none⟩ = some (.slice (some ⟨gW, 0, none⟩) nW cW)) 12 (by kernel_rfl) ?_
      refine takeL (i := 0) (oi := { dst := some 48, op := Go.Op.load 31 (Go.Operand.tmp 2), type := 31, pos := "journal.go:171", after := #[], guard := none }) (v := ptr j.B) [12, 11, 10] rfl (by kernel_rfl) (by kernel_rfl) (by kernel_rfl) (by kernel_rfl) (fun _ _ _ h => calm_panic h) rfl ?_ q12 ?_
      · intro Z hZ; have z1 := hZ.1; go_simp
      simp only [Act.put, List.setIfInBounds_toArray, List.set_cons_zero, List.set_cons_succ]
      refine takeL (i := 1) (oi := { dst := some 49, op := Go.Op.load 31 (Go.Operand.tmp 2), type := 31, pos := "journal.go:171", after := #[], guard := none }) (v := ptr j.B) [12, 11, 10, 9, 4, 3, 2] rfl (by kernel_rfl) (by kernel_rfl) (by kernel_rfl) (by kernel_rfl) (fun _ _ _ h => calm_panic h) rfl ?_ q12 ?_
      · intro Z hZ; have z1 := hZ.1; go_simp
      simp only [Act.put, List.setIfInBounds_toArray, List.set_cons_zero, List.set_cons_succ]
      refine takeL (i := 2) (oi := { dst := some 50, op := Go.Op.nilCheck (Go.Operand.tmp 49), type := 0, pos := "journal.go:171", after := #[{ on := 1, ground := Go.Ground.data }], guard := none }) (v := ptr j.B) [12, 11, 10, 9, 4, 3] rfl (by kernel_rfl) (by kernel_rfl) (by kernel_rfl) (by kernel_rfl) (fun _ _ _ h => calm_panic h) rfl ?_ q12 ?_
      · intro Z hZ; go_simp
      simp only [Act.put, List.setIfInBounds_toArray, List.set_cons_zero, List.set_cons_succ]
      refine takeL (i := 3) (oi := { dst := some 51, op := Go.Op.fieldAddr 72 (Go.Operand.tmp 50) 1, type := 0, pos := "journal.go:171", after := #[{ on := 2, ground := Go.Ground.data }], guard := none }) (v := .pointer (some ⟨j.B, 1, none⟩)) [12, 11, 10, 9, 4] rfl (by kernel_rfl) (by kernel_rfl) (by kernel_rfl) (by kernel_rfl) (fun _ _ _ h => calm_panic h) rfl ?_ q12 ?_
      · intro Z hZ; go_simp
      simp only [Act.put, List.setIfInBounds_toArray, List.set_cons_zero, List.set_cons_succ]
      refine takeL (i := 4) (oi := { dst := some 52, op := Go.Op.load 22 (Go.Operand.tmp 51), type := 22, pos := "journal.go:171", after := #[{ on := 3, ground := Go.Ground.data }], guard := none }) (v := .slice aR nR cR) [12, 11, 10, 9] rfl (by kernel_rfl) (by kernel_rfl) (by kernel_rfl) (by kernel_rfl) (fun _ _ _ h => calm_panic h) rfl ?_ q12 ?_
      · intro Z hZ; have z1 := hZ.2.1; go_simp
      simp only [Act.put, List.setIfInBounds_toArray, List.set_cons_zero, List.set_cons_succ]
      refine takeL (i := 5) (oi := { dst := some 53, op := Go.Op.load 31 (Go.Operand.tmp 2), type := 31, pos := "journal.go:171", after := #[], guard := none }) (v := ptr j.B) [12, 11, 10, 9, 8, 7, 6] rfl (by kernel_rfl) (by kernel_rfl) (by kernel_rfl) (by kernel_rfl) (fun _ _ _ h => calm_panic h) rfl ?_ q12 ?_
      · intro Z hZ; have z1 := hZ.1; go_simp
      simp only [Act.put, List.setIfInBounds_toArray, List.set_cons_zero, List.set_cons_succ]
      refine takeL (i := 6) (oi := { dst := some 54, op := Go.Op.nilCheck (Go.Operand.tmp 53), type := 0, pos := "journal.go:171", after := #[{ on := 5, ground := Go.Ground.data }], guard := none }) (v := ptr j.B) [12, 11, 10, 9, 8, 7] rfl (by kernel_rfl) (by kernel_rfl) (by kernel_rfl) (by kernel_rfl) (fun _ _ _ h => calm_panic h) rfl ?_ q12 ?_
      · intro Z hZ; go_simp
      simp only [Act.put, List.setIfInBounds_toArray, List.set_cons_zero, List.set_cons_succ]
      refine takeL (i := 7) (oi := { dst := some 55, op := Go.Op.fieldAddr 72 (Go.Operand.tmp 54) 4, type := 0, pos := "journal.go:171", after := #[{ on := 6, ground := Go.Ground.data }], guard := none }) (v := .pointer (some ⟨j.B, 4, none⟩)) [12, 11, 10, 9, 8] rfl (by kernel_rfl) (by kernel_rfl) (by kernel_rfl) (by kernel_rfl) (fun _ _ _ h => calm_panic h) rfl ?_ q12 ?_
      · intro Z hZ; go_simp
      simp only [Act.put, List.setIfInBounds_toArray, List.set_cons_zero, List.set_cons_succ]
      refine takeL (i := 8) (oi := { dst := some 56, op := Go.Op.load 22 (Go.Operand.tmp 55), type := 22, pos := "journal.go:171", after := #[{ on := 7, ground := Go.Ground.data }], guard := none }) (v := .slice (some ⟨gW, 0, none⟩) nW cW) [12, 11, 10, 9] rfl (by kernel_rfl) (by kernel_rfl) (by kernel_rfl) (by kernel_rfl) (fun _ _ _ h => calm_panic h) rfl ?_ q12 ?_
      · intro Z hZ; have z1 := hZ.2.2; go_simp
      simp only [Act.put, List.setIfInBounds_toArray, List.set_cons_zero, List.set_cons_succ]
      refine oneL (i := 9) (o := { dst := some 57, op := Go.Op.call { callee := Go.Callee.builtin Go.Builtin.append, args := #[Go.Operand.tmp 52, Go.Operand.tmp 56], argTypes := #[22, 22] }, type := 22, pos := "journal.go:171", after := #[{ on := 4, ground := Go.Ground.data }, { on := 8, ground := Go.Ground.data }], guard := none }) rfl (by kernel_rfl) rfl ?_
      refine wp_by_run (w' := Z2) (v := .slice a' n' c') (exec_app rfl rfl rfl HRUN.out) ⟨fun _ => q12Z, ?_⟩
      simp only [Act.put, List.setIfInBounds_toArray, List.set_cons_zero, List.set_cons_succ]
      refine takeL (i := 10) (oi := { dst := some 58, op := Go.Op.nilCheck (Go.Operand.tmp 48), type := 0, pos := "journal.go:171", after := #[{ on := 0, ground := Go.Ground.data }, { on := 0, ground := Go.Ground.phase }, { on := 1, ground := Go.Ground.phase }, { on := 2, ground := Go.Ground.phase }, { on := 3, ground := Go.Ground.phase }, { on := 4, ground := Go.Ground.phase }, { on := 5, ground := Go.Ground.phase }, { on := 6, ground := Go.Ground.phase }, { on := 7, ground := Go.Ground.phase }, { on := 8, ground := Go.Ground.phase }, { on := 9, ground := Go.Ground.phase }], guard := none }) (v := ptr j.B) [12, 11] rfl (by kernel_rfl) (by kernel_rfl) (by kernel_rfl) (by kernel_rfl) (fun _ _ _ h => calm_panic h) rfl ?_ q12Z ?_
      · intro Z hZ; go_simp
      simp only [Act.put, List.setIfInBounds_toArray, List.set_cons_zero, List.set_cons_succ]
      refine takeL (i := 11) (oi := { dst := some 59, op := Go.Op.fieldAddr 72 (Go.Operand.tmp 58) 1, type := 0, pos := "journal.go:171", after := #[{ on := 10, ground := Go.Ground.data }, { on := 0, ground := Go.Ground.phase }, { on := 1, ground := Go.Ground.phase }, { on := 2, ground := Go.Ground.phase }, { on := 3, ground := Go.Ground.phase }, { on := 4, ground := Go.Ground.phase }, { on := 5, ground := Go.Ground.phase }, { on := 6, ground := Go.Ground.phase }, { on := 7, ground := Go.Ground.phase }, { on := 8, ground := Go.Ground.phase }, { on := 9, ground := Go.Ground.phase }], guard := none }) (v := .pointer (some ⟨j.B, 1, none⟩)) [12] rfl (by kernel_rfl) (by kernel_rfl) (by kernel_rfl) (by kernel_rfl) (fun _ _ _ h => calm_panic h) rfl ?_ q12Z ?_
      · intro Z hZ; go_simp
      simp only [Act.put, List.setIfInBounds_toArray, List.set_cons_zero, List.set_cons_succ]
      refine oneL (i := 12) (o := { dst := none, op := Go.Op.store 22 (Go.Operand.tmp 59) (Go.Operand.tmp 57), type := 0, pos := "journal.go:171", after := #[{ on := 11, ground := Go.Ground.data }, { on := 9, ground := Go.Ground.data }, { on := 9, ground := Go.Ground.chain }, { on := 0, ground := Go.Ground.phase }, { on := 1, ground := Go.Ground.phase }, { on := 2, ground := Go.Ground.phase }, { on := 3, ground := Go.Ground.phase }, { on := 4, ground := Go.Ground.phase }, { on := 5, ground := Go.Ground.phase }, { on := 6, ground := Go.Ground.phase }, { on := 7, ground := Go.Ground.phase }, { on := 8, ground := Go.Ground.phase }, { on := 9, ground := Go.Ground.phase }], guard := none }) rfl (by kernel_rfl) rfl ?_
      refine wp_by_skip (w' := Z2.setCell ⟨j.B, 1, none⟩ (.slice a' n' c')) (exec_store rfl rfl rfl q12Z.2.1 f12 rfl (by kernel_rfl)) ⟨fun h => absurd rfl h, ?_⟩
      simp only [Act.put, List.setIfInBounds_toArray, List.set_cons_zero, List.set_cons_succ]
      refine doneL (by kernel_rfl) (Calm.normal ?_) _
      clear q12 q12Z f12
      go_wp2_with (first | (go_at_call 21; (with_reducible refine HFG.out.mono ?_); rintro e W4 ⟨rfl, hW4⟩; have HW4 := Lib.hid hW4; clear hW4) | fail)
      obtain ⟨hs4, hE4, hd4, hu4, hO4⟩ := HTL.out W4 HW4.out
      obtain ⟨a4, u4, hall⟩ := HREST.out W4 HW4.out
      have HSZ4 := Lib.hid (show X.heap.size ≤ W4.heap.size by have := HC.out.2.2.upd.size; omega)
      have HEQ := Lib.hid (show ∀ b, w.heap.size ≤ b → b < X.heap.size → W4.drew.heap[b]? = X.heap[b]? from hE4)
      have HQ14 := Lib.hid (show ∀ Z : World, (∀ b, w.heap.size ≤ b → b < X.heap.size → Z.heap[b]? = X.heap[b]?) → (fun Z : World => Z.cell? ⟨w.heap.size, 0, none⟩ = some (ptr j.B) ∧ Z.cell? ⟨W1.heap.size + 1, 0, none⟩ = some (.int .i64 (fin : Nat)) ∧ Z.cell? ⟨W1.heap.size, 0, none⟩ = some (.slice a5 lx c5) ∧ At 62 Z W2.heap.size #[.int .i64 (pq : Nat), .int .u64 (T : Nat), .int .u64 (T : Nat)]) Z from fun Z hZ => by
        have hx := HST.out.1
        exact ⟨(show At 31 Z _ _ from (hZ _ (Nat.le_refl _) hx.x0.lt).trans hx.x0).cell 0, (show At 3 Z _ _ from (hZ _ hx.sz.2.1 hx.x6.lt).trans hx.x6).cell 0, (show At 23 Z _ _ from (hZ _ hx.sz.1 hx.x5.lt).trans hx.x5).cell 0, (hZ _ hx.sz.2.2.1 hx.x7.lt).trans hx.x7⟩)
      have q14 := HQ14.out W4.drew HEQ.out
      have hpo := partialOf_any (B := W4.drew.heap.size) a5 lx c5 (logX J) W4.drew (hO4.bys.below (below_dr W4 1)) HST.out.1.lx hO4.cap (Nat.le_refl _) (by have := H2.out.2.2.2.2.2.2.2.2.2.1; omega)
      unfold Made at hpo
      rw [show (logX J).drop (lx / 128 * 128) = partL (J.recs ++ J.wait) by rw [HST.out.1.lx]; exact logX_part J] at hpo
      obtain ⟨lQ, hlQ⟩ : ∃ lQ, (partL (J.recs ++ J.wait)).length = lQ := ⟨_, rfl⟩
      rw [hlQ] at hpo
      have HPO := Lib.hid hpo
      have HFI2 := Lib.hid (show sizeN J.recs + sizeN J.wait = fin from HFI.out.2.1)
      have HALL := Lib.hid (show ∀ (W5 : World) (aQ : Option Addr) (lQ cQ : Nat), Below W4.drew.heap.size W4.drew W5 → Own8 W4.drew.heap.size W5 (.slice aQ lQ cQ) (partL (J.recs ++ J.wait)) → _ from fun W5 aQ lQ cQ h1 h2 => hall W5 aQ lQ cQ ((below_dr W4 1).trans h1) h2)
      have HD4 := Lib.hid (And.intro hd4 (And.intro hu4 u4))
      clear hs4 hE4 hd4 hu4 hO4 a4 u4 hall hpo hlQ g13
      refine regionL (fun Z : World => Z.cell? ⟨w.heap.size, 0, none⟩ = some (ptr j.B) ∧ Z.cell? ⟨W1.heap.size + 1, 0, none⟩ = some (.int .i64 (fin : Nat)) ∧ Z.cell? ⟨W1.heap.size, 0, none⟩ = some (.slice a5 lx c5) ∧ At 62 Z W2.heap.size #[.int .i64 (pq : Nat), .int .u64 (T : Nat), .int .u64 (T : Nat)]) 15 (by kernel_rfl) ?_
      refine takeL (i := 0) (oi := { dst := some 62, op := Go.Op.load 31 (Go.Operand.tmp 2), type := 31, pos := "journal.go:173", after := #[], guard := none }) (v := ptr j.B) [15, 14, 13, 12, 11, 10, 9, 8, 7] rfl (by kernel_rfl) (by kernel_rfl) (by kernel_rfl) (by kernel_rfl) (fun _ _ _ h => calm_panic h) rfl ?_ q14 ?_
      · intro Z hZ; have z1 := hZ.1; go_simp
      simp only [Act.put, List.setIfInBounds_toArray, List.set_cons_zero, List.set_cons_succ]
      refine takeL (i := 1) (oi := { dst := some 63, op := Go.Op.load 31 (Go.Operand.tmp 2), type := 31, pos := "journal.go:173", after := #[{ on := 9, ground := Go.Ground.gcOnly Go.Departure.lateStores }], guard := none }) (v := ptr j.B) [15, 14, 13, 12, 11, 10] rfl (by kernel_rfl) (by kernel_rfl) (by kernel_rfl) (by kernel_rfl) (fun _ _ _ h => calm_panic h) rfl ?_ q14 ?_
      · intro Z hZ; have z1 := hZ.1; go_simp
      simp only [Act.put, List.setIfInBounds_toArray, List.set_cons_zero, List.set_cons_succ]
      refine takeL (i := 2) (oi := { dst := some 64, op := Go.Op.load 31 (Go.Operand.tmp 2), type := 31, pos := "journal.go:173", after := #[{ on := 12, ground := Go.Ground.gcOnly Go.Departure.lateStores }], guard := none }) (v := ptr j.B) [15, 14, 13] rfl (by kernel_rfl) (by kernel_rfl) (by kernel_rfl) (by kernel_rfl) (fun _ _ _ h => calm_panic h) rfl ?_ q14 ?_
      · intro Z hZ; have z1 := hZ.1; go_simp
      simp only [Act.put, List.setIfInBounds_toArray, List.set_cons_zero, List.set_cons_succ]
      refine takeL (i := 3) (oi := { dst := some 65, op := Go.Op.load 3 (Go.Operand.tmp 6), type := 3, pos := "journal.go:173", after := #[], guard := none }) (v := .int .i64 (fin : Nat)) [15, 14, 13, 12, 11, 10, 9, 8, 7] rfl (by kernel_rfl) (by kernel_rfl) (by kernel_rfl) (by kernel_rfl) (fun _ _ _ h => calm_panic h) rfl ?_ q14 ?_
      · intro Z hZ; have z1 := hZ.2.1; go_simp
      simp only [Act.put, List.setIfInBounds_toArray, List.set_cons_zero, List.set_cons_succ]
      refine takeL (i := 4) (oi := { dst := some 66, op := Go.Op.load 23 (Go.Operand.tmp 5), type := 23, pos := "journal.go:173", after := #[], guard := none }) (v := .slice a5 lx c5) [15, 14, 13, 12, 11, 10, 9, 8, 7, 5] rfl (by kernel_rfl) (by kernel_rfl) (by kernel_rfl) (by kernel_rfl) (fun _ _ _ h => calm_panic h) rfl ?_ q14 ?_
      · intro Z hZ; have z1 := hZ.2.2.1; go_simp
      simp only [Act.put, List.setIfInBounds_toArray, List.set_cons_zero, List.set_cons_succ]
      refine takeL (i := 6) (oi := { dst := some 68, op := Go.Op.load 62 (Go.Operand.tmp 7), type := 62, pos := "journal.go:173", after := #[{ on := 12, ground := Go.Ground.gcOnly Go.Departure.lateStores }], guard := none }) (v := .agg #[.int .i64 (pq : Nat), .int .u64 (T : Nat), .int .u64 (T : Nat)]) [15, 14, 13] rfl (by kernel_rfl) (by kernel_rfl) (by kernel_rfl) (by kernel_rfl) (fun _ _ _ h => calm_panic h) rfl ?_ q14 ?_
      · exact fun Z hZ => exec_load rfl rfl (load_head hZ.2.2.2)
      simp only [Act.put, List.setIfInBounds_toArray, List.set_cons_zero, List.set_cons_succ]
      refine oneL (i := 5) (o := { dst := some 67, op := Go.Op.call { callee := Go.Callee.value (Go.Operand.func 30), args := #[Go.Operand.tmp 66], argTypes := #[23] }, type := 23, pos := "journal.go:173", after := #[{ on := 4, ground := Go.Ground.data }], guard := none }) rfl (by kernel_rfl) rfl ?_
      refine wp_by_call (f := 30) (args := #[.slice a5 lx c5]) (by go_simp) (HPO.out.mono ?_)
      rintro e W5 ⟨aQ, cQ, rfl, hO5, hB5⟩
      have HK := Lib.hid (HALL.out W5 aQ _ cQ hB5 hO5)
      have q15 := HQ14.out W5 (fun b h1 h2 => (hB5.block b (Nat.lt_of_lt_of_le h2 HSZ4.out)).trans (HEQ.out b h1 h2))
      have c2 := HK.out.1.cell 2
      have f2 := HK.out.1.free 2
      have c3 := HK.out.2.1.cell 3
      have f3 := HK.out.2.1.free 3
      have t6 := there3 HK.out.2.2.1
      rw [HFI2.out] at c3 f3 t6
      have q16 := HQ14.out (W5.setCell ⟨j.B, 2, none⟩ (.int .i64 (fin : Nat))) (fun b h1 h2 => (heap_setCell_other W5 ⟨j.B, 2, none⟩ b _ (by show b ≠ j.B; omega)).trans ((hB5.block b (Nat.lt_of_lt_of_le h2 HSZ4.out)).trans (HEQ.out b h1 h2)))
      have q17 := HQ14.out ((W5.setCell ⟨j.B, 2, none⟩ (.int .i64 (fin : Nat))).setCell ⟨j.B, 3, none⟩ (.slice aQ lQ cQ)) (fun b h1 h2 => (heap_setCell_other _ ⟨j.B, 3, none⟩ b _ (by show b ≠ j.B; omega)).trans ((heap_setCell_other W5 ⟨j.B, 2, none⟩ b _ (by show b ≠ j.B; omega)).trans ((hB5.block b (Nat.lt_of_lt_of_le h2 HSZ4.out)).trans (HEQ.out b h1 h2))))
      clear hO5 hB5
      refine ⟨_, rfl, fun _ => q15, ?_⟩
      simp only [Act.put, List.setIfInBounds_toArray, List.set_cons_zero, List.set_cons_succ]
      refine takeL (i := 7) (oi := { dst := some 69, op := Go.Op.nilCheck (Go.Operand.tmp 62), type := 0, pos := "journal.go:173", after := #[{ on := 0, ground := Go.Ground.data }, { on := 0, ground := Go.Ground.phase }, { on := 1, ground := Go.Ground.textOnly Go.Departure.lateStores }, { on := 2, ground := Go.Ground.textOnly Go.Departure.lateStores }, { on := 3, ground := Go.Ground.phase }, { on := 4, ground := Go.Ground.textOnly Go.Departure.lateStores }, { on := 5, ground := Go.Ground.phase }, { on := 6, ground := Go.Ground.textOnly Go.Departure.lateStores }], guard := none }) (v := ptr j.B) [15, 14, 13, 12, 11, 10, 9, 8] rfl (by kernel_rfl) (by kernel_rfl) (by kernel_rfl) (by kernel_rfl) (fun _ _ _ h => calm_panic h) rfl ?_ q15 ?_
      · intro Z hZ; go_simp
      simp only [Act.put, List.setIfInBounds_toArray, List.set_cons_zero, List.set_cons_succ]
      refine takeL (i := 8) (oi := { dst := some 70, op := Go.Op.fieldAddr 72 (Go.Operand.tmp 69) 2, type := 0, pos := "journal.go:173", after := #[{ on := 7, ground := Go.Ground.data }, { on := 0, ground := Go.Ground.phase }, { on := 1, ground := Go.Ground.textOnly Go.Departure.lateStores }, { on := 2, ground := Go.Ground.textOnly Go.Departure.lateStores }, { on := 3, ground := Go.Ground.phase }, { on := 4, ground := Go.Ground.textOnly Go.Departure.lateStores }, { on := 5, ground := Go.Ground.phase }, { on := 6, ground := Go.Ground.textOnly Go.Departure.lateStores }], guard := none }) (v := .pointer (some ⟨j.B, 2, none⟩)) [15, 14, 13, 12, 11, 10, 9] rfl (by kernel_rfl) (by kernel_rfl) (by kernel_rfl) (by kernel_rfl) (fun _ _ _ h => calm_panic h) rfl ?_ q15 ?_
      · intro Z hZ; go_simp
      simp only [Act.put, List.setIfInBounds_toArray, List.set_cons_zero, List.set_cons_succ]
      refine oneL (i := 9) (o := { dst := none, op := Go.Op.store 3 (Go.Operand.tmp 70) (Go.Operand.tmp 65), type := 0, pos := "journal.go:173", after := #[{ on := 8, ground := Go.Ground.data }, { on := 3, ground := Go.Ground.data }, { on := 5, ground := Go.Ground.chain }, { on := 0, ground := Go.Ground.phase }, { on := 1, ground := Go.Ground.textOnly Go.Departure.lateStores }, { on := 2, ground := Go.Ground.textOnly Go.Departure.lateStores }, { on := 3, ground := Go.Ground.phase }, { on := 4, ground := Go.Ground.textOnly Go.Departure.lateStores }, { on := 5, ground := Go.Ground.phase }, { on := 6, ground := Go.Ground.textOnly Go.Departure.lateStores }], guard := none }) rfl (by kernel_rfl) rfl ?_
      refine wp_by_skip (w' := W5.setCell ⟨j.B, 2, none⟩ (.int .i64 (fin : Nat))) (exec_store rfl rfl rfl c2 f2 rfl (by kernel_rfl)) ⟨fun _ => q16, ?_⟩
      simp only [Act.put, List.setIfInBounds_toArray, List.set_cons_zero, List.set_cons_succ]
      refine takeL (i := 10) (oi := { dst := some 71, op := Go.Op.nilCheck (Go.Operand.tmp 63), type := 0, pos := "journal.go:173", after := #[{ on := 1, ground := Go.Ground.data }, { on := 0, ground := Go.Ground.phase }, { on := 1, ground := Go.Ground.phase }, { on := 2, ground := Go.Ground.textOnly Go.Departure.lateStores }, { on := 3, ground := Go.Ground.phase }, { on := 4, ground := Go.Ground.phase }, { on := 5, ground := Go.Ground.phase }, { on := 6, ground := Go.Ground.textOnly Go.Departure.lateStores }, { on := 7, ground := Go.Ground.phase }, { on := 8, ground := Go.Ground.phase }, { on := 9, ground := Go.Ground.phase }], guard := none }) (v := ptr j.B) [15, 14, 13, 12, 11] rfl (by kernel_rfl) (by kernel_rfl) (by kernel_rfl) (by kernel_rfl) (fun _ _ _ h => calm_panic h) rfl ?_ q16 ?_
      · intro Z hZ; go_simp
      simp only [Act.put, List.setIfInBounds_toArray, List.set_cons_zero, List.set_cons_succ]
      refine takeL (i := 11) (oi := { dst := some 72, op := Go.Op.fieldAddr 72 (Go.Operand.tmp 71) 3, type := 0, pos := "journal.go:173", after := #[{ on := 10, ground := Go.Ground.data }, { on := 0, ground := Go.Ground.phase }, { on := 1, ground := Go.Ground.phase }, { on := 2, ground := Go.Ground.textOnly Go.Departure.lateStores }, { on := 3, ground := Go.Ground.phase }, { on := 4, ground := Go.Ground.phase }, { on := 5, ground := Go.Ground.phase }, { on := 6, ground := Go.Ground.textOnly Go.Departure.lateStores }, { on := 7, ground := Go.Ground.phase }, { on := 8, ground := Go.Ground.phase }, { on := 9, ground := Go.Ground.phase }], guard := none }) (v := .pointer (some ⟨j.B, 3, none⟩)) [15, 14, 13, 12] rfl (by kernel_rfl) (by kernel_rfl) (by kernel_rfl) (by kernel_rfl) (fun _ _ _ h => calm_panic h) rfl ?_ q16 ?_
      · intro Z hZ; go_simp
      simp only [Act.put, List.setIfInBounds_toArray, List.set_cons_zero, List.set_cons_succ]
      refine oneL (i := 12) (o := { dst := none, op := Go.Op.store 23 (Go.Operand.tmp 72) (Go.Operand.tmp 67), type := 0, pos := "journal.go:173", after := #[{ on := 11, ground := Go.Ground.data }, { on := 5, ground := Go.Ground.data }, { on := 9, ground := Go.Ground.chain }, { on := 0, ground := Go.Ground.phase }, { on := 1, ground := Go.Ground.phase }, { on := 2, ground := Go.Ground.textOnly Go.Departure.lateStores }, { on := 3, ground := Go.Ground.phase }, { on := 4, ground := Go.Ground.phase }, { on := 5, ground := Go.Ground.phase }, { on := 6, ground := Go.Ground.textOnly Go.Departure.lateStores }, { on := 7, ground := Go.Ground.phase }, { on := 8, ground := Go.Ground.phase }, { on := 9, ground := Go.Ground.phase }], guard := none }) rfl (by kernel_rfl) rfl ?_
      refine wp_by_skip (w' := (W5.setCell ⟨j.B, 2, none⟩ (.int .i64 (fin : Nat))).setCell ⟨j.B, 3, none⟩ (.slice aQ lQ cQ)) (exec_store rfl rfl rfl c3 f3 rfl (by kernel_rfl)) ⟨fun _ => q17, ?_⟩
      simp only [Act.put, List.setIfInBounds_toArray, List.set_cons_zero, List.set_cons_succ]
      refine takeL (i := 13) (oi := { dst := some 73, op := Go.Op.nilCheck (Go.Operand.tmp 64), type := 0, pos := "journal.go:173", after := #[{ on := 2, ground := Go.Ground.data }, { on := 0, ground := Go.Ground.phase }, { on := 1, ground := Go.Ground.phase }, { on := 2, ground := Go.Ground.phase }, { on := 3, ground := Go.Ground.phase }, { on := 4, ground := Go.Ground.phase }, { on := 5, ground := Go.Ground.phase }, { on := 6, ground := Go.Ground.phase }, { on := 7, ground := Go.Ground.phase }, { on := 8, ground := Go.Ground.phase }, { on := 9, ground := Go.Ground.phase }, { on := 10, ground := Go.Ground.phase }, { on := 11, ground := Go.Ground.phase }, { on := 12, ground := Go.Ground.phase }], guard := none }) (v := ptr j.B) [15, 14] rfl (by kernel_rfl) (by kernel_rfl) (by kernel_rfl) (by kernel_rfl) (fun _ _ _ h => calm_panic h) rfl ?_ q17 ?_
      · intro Z hZ; go_simp
      simp only [Act.put, List.setIfInBounds_toArray, List.set_cons_zero, List.set_cons_succ]
      refine takeL (i := 14) (oi := { dst := some 74, op := Go.Op.fieldAddr 72 (Go.Operand.tmp 73) 6, type := 0, pos := "journal.go:173", after := #[{ on := 13, ground := Go.Ground.data }, { on := 0, ground := Go.Ground.phase }, { on := 1, ground := Go.Ground.phase }, { on := 2, ground := Go.Ground.phase }, { on := 3, ground := Go.Ground.phase }, { on := 4, ground := Go.Ground.phase }, { on := 5, ground := Go.Ground.phase }, { on := 6, ground := Go.Ground.phase }, { on := 7, ground := Go.Ground.phase }, { on := 8, ground := Go.Ground.phase }, { on := 9, ground := Go.Ground.phase }, { on := 10, ground := Go.Ground.phase }, { on := 11, ground := Go.Ground.phase }, { on := 12, ground := Go.Ground.phase }], guard := none }) (v := .pointer (some ⟨j.B, 6, none⟩)) [15] rfl (by kernel_rfl) (by kernel_rfl) (by kernel_rfl) (by kernel_rfl) (fun _ _ _ h => calm_panic h) rfl ?_ q17 ?_
      · intro Z hZ; go_simp
      simp only [Act.put, List.setIfInBounds_toArray, List.set_cons_zero, List.set_cons_succ]
      refine oneL (i := 15) (o := { dst := none, op := Go.Op.store 62 (Go.Operand.tmp 74) (Go.Operand.tmp 68), type := 0, pos := "journal.go:173", after := #[{ on := 14, ground := Go.Ground.data }, { on := 6, ground := Go.Ground.data }, { on := 12, ground := Go.Ground.chain }, { on := 0, ground := Go.Ground.phase }, { on := 1, ground := Go.Ground.phase }, { on := 2, ground := Go.Ground.phase }, { on := 3, ground := Go.Ground.phase }, { on := 4, ground := Go.Ground.phase }, { on := 5, ground := Go.Ground.phase }, { on := 6, ground := Go.Ground.phase }, { on := 7, ground := Go.Ground.phase }, { on := 8, ground := Go.Ground.phase }, { on := 9, ground := Go.Ground.phase }, { on := 10, ground := Go.Ground.phase }, { on := 11, ground := Go.Ground.phase }, { on := 12, ground := Go.Ground.phase }], guard := none }) rfl (by kernel_rfl) rfl ?_
      refine wp_by_skip (w' := ((W5.setCell ⟨j.B, 2, none⟩ (.int .i64 (fin : Nat))).setCell ⟨j.B, 3, none⟩ (.slice aQ lQ cQ)).setCells j.B 6 [.int .i64 (pq : Nat), .int .u64 (T : Nat), .int .u64 (T : Nat)]) (exec_store_mid rfl rfl rfl t6 (by kernel_rfl) (by simp [Value.oneCell'])) ⟨fun h => absurd rfl h, ?_⟩
      simp only [Act.put, List.setIfInBounds_toArray, List.set_cons_zero, List.set_cons_succ]
      refine doneL (by kernel_rfl) (Calm.normal ?_) _
      go_wp2
      go_ret
      have hk := HK.out.2.2.2
      rw [HFI2.out, HPT.out.1, HPT.out.2] at hk
      obtain ⟨j', k1, k2, k3, k4⟩ := hk
      have hjt := HST.out.1.jat.step HST.out.1.dev HC.out.2.2
      have hs1 := HST.out.2.1.size
      have hs2 := HC.out.2.2.upd.size
      have hd9 := HC.out.1.drew.jupd (D := p1.D) (j := j) (J := J) (by rw [HC.out.2.2.D]; exact hjt.drew) k3 (fun k e => e)
      unfold StoreE
      rw [HC.out.2.1, if_neg (by decide)]
      exact ⟨rfl, p1, j', hd9, by rw [HC.out.2.2.D]; exact k1, HC.out.2.2.D, k2, ((Upd.of HST.out.2.1 (fun k => own p k ∨ jown j k)).trans HC.out.2.2.upd (fun k e => .inl (.inl e))).trans ((Upd.refl (jown j) wr).drew.trans k3 (fun k e => .inl e)) (fun k e => .inl (.inr e)), fun k hk => (HC.out.2.2.has k hk).elim .inl (fun e => .inr (by omega)), fun k hk => (k4 k hk).elim .inl (fun e => .inr (Nat.le_trans (Nat.le_trans hs1 hs2) e))⟩

end Go.Proofs.Ytpcbolmidnoaiaa

/- Commit. -/
set_option linter.unusedVariables false
set_option linter.unusedSimpArgs false
namespace Go.Proofs.Ytpcbolmidnoaiaa
open Go.RowKit Go.Shelf
def comE (d : Dv) (J : Jv) : Int := if J.wait = [] then 0 else downE (comD d J 4).down
def comDv (d : Dv) (J : Jv) : Dv := if J.wait = [] then d else comD d J 4
def Jv.com (J : Jv) (d : Dv) : Jv := if J.wait = [] then J else if (comD d J 4).down then { J with broken := 120 } else J.stored
/-- What Commit leaves. -/
def CommitE (w w' : World) (p : Pl) (j : JPl) (d : Dv) (J : Jv) (e : Ending) : Prop := e = .returned (.int .i64 (comE d J)) ∧ ∃ p' j', DevAt w' p' (comDv d J) ∧ JAt w' p'.D j' (J.com d) ∧ p'.D = p.D ∧ j'.B = j.B ∧
  Upd (fun k => own p k ∨ jown j k) w w' ∧ (∀ k, own p' k → own p k ∨ w.heap.size ≤ k) ∧ (∀ k, jown j' k → jown j k ∨ w.heap.size ≤ k)
theorem JAt.brk {w : World} {D : Nat} {j : JPl} {J : Jv} (h : JAt w D j J) (x : Int) : JAt (w.setCell ⟨j.B, 9, none⟩ (.int .i64 x)) D j { J with broken := x } := by
  have hu : Upd (fun k => k = j.B) w (w.setCell ⟨j.B, 9, none⟩ (.int .i64 x)) := (Upd.refl (fun k => k = j.B) w).setCell (p := ⟨j.B, 9, none⟩) (.inl rfl) _
  have h8 : ∀ k cs fr, w.heap[k]? = some (.cells cs 5 fr) → ¬ (k = j.B) := fun k cs fr hk e => h.not8 hk (.inl e)
  exact ⟨h.jr.set 9 (.int .i64 x), sls_kept h.recs hu (fun k e q => h.rowR (q ▸ e)) h8, sls_kept h.wait hu (fun k e q => h.rowB (q ▸ e)) h8, own8_kept h.part hu h8, h.rl, h.wl, h.apart, ⟨h.ok.recs, h.ok.wait, h.ok.place, h.ok.num, h.ok.top, h.ok.len, h.ok.fits⟩⟩
theorem com_fin {w w1 w2 : World} {p : Pl} {j : JPl} {d : Dv} {J : Jv} (hbr : J.broken = 0) (hw : J.wait ≠ []) (hb : Below w.heap.size w w1) {e : Ending} (hd : ∀ k, own p k → k < w.heap.size) (h : StoreE w1 w2 p j d J e) :
    e = .returned (.int .i64 (comE d J)) ∧ ∃ cs u, At 72 w2 j.B cs ∧ cs[9]? = some u ∧ CommitE w (w2.setCell ⟨j.B, 9, none⟩ (.int .i64 (comE d J))) p j d J (.returned (.int .i64 (comE d J))) := by
  obtain ⟨e1, p', j', k1, k2, k3, k4, k5, k6, k7⟩ := h
  have hx : comE d J = downE (comD d J 4).down := if_neg hw
  have hs := hb.size
  refine ⟨by rw [hx]; exact e1, _, _, k4 ▸ k2.jr, rfl, ?_⟩
  have hu : Upd (fun k => k = j.B) w2 (w2.setCell ⟨j.B, 9, none⟩ (.int .i64 (comE d J))) := (Upd.refl (fun k => k = j.B) w2).setCell (p := ⟨j.B, 9, none⟩) (.inl rfl) _
  have hbk := k2.brk (comE d J)
  rw [k4] at hbk
  refine ⟨rfl, p', j', ?_, ?_, k3, k4, ((Upd.of hb (fun k => own p k ∨ jown j k)).trans k5 (fun k e => .inl e)).trans hu (fun k e => .inl (.inr (.inl e))), fun k q => (k6 k q).elim .inl (fun e => .inr (by omega)), fun k q => (k7 k q).elim .inl (fun e => .inr (by omega))⟩
  · unfold comDv
    rw [if_neg hw]
    exact k1.jupd k2 hu (fun k e => .inl (by rw [k4]; exact e))
  · unfold Jv.com
    rw [if_neg hw]
    rw [hx] at hbk ⊢
    cases hdn : (comD d J 4).down
    · rw [hdn, if_neg (by decide)] at hbk
      rw [if_neg (by decide)]
      have : ({ J.stored with broken := downE false } : Jv) = J.stored := by
        unfold Jv.stored downE
        rw [hbr]; rfl
      rw [this] at hbk
      exact hbk
    · rw [hdn, if_pos rfl] at hbk
      rw [if_pos rfl]
      exact hbk
set_option maxRecDepth 100000 in
set_option maxHeartbeats 1000000 in
theorem commit_any (p : Pl) (j : JPl) (d : Dv) (J : Jv) (w : World) (hd : DevAt w p d) (h : JAt w p.D j J) (hbr : J.broken = 0) (hup : d.down = false) (hcache : d.cache = []) (hlen : d.safe.length = J.len) (hcalls : d.calls < 1000000000000000000) (hns : nSec (logX J) ≤ 256) (htop : J.top < 900) :
    Calls Try.prog 10 #[ptr j.B] w fun e w' => CommitE w w' p j d J e := by
  have hB := broken_any h
  rw [hbr] at hB
  have HB := Lib.hid hB
  obtain ⟨a, c, e, hc, hbs⟩ := h.waitBss
  have c4 : w.cell? ⟨j.B, 4, none⟩ = some (.slice a J.wait.length c) := by rw [← e]; exact h.jr.cell 4
  by_cases hw : J.wait = []
  · have HF := Lib.hid (show CommitE w w p j d J (.returned (.int .i64 0)) from by
      unfold CommitE comE comDv Jv.com
      rw [if_pos hw, if_pos hw, if_pos hw]
      exact ⟨rfl, p, j, hd, h, rfl, rfl, Upd.refl _ _, fun k q => .inl q, fun k q => .inl q⟩)
    rw [hw] at c4
    have iy : ((0 : Int) == 0) = true := by decide
    rw [show (([] : List (List Int)).length) = 0 from rfl] at c4
    clear hd h hbr hup hcache hlen hcalls hns htop hB e hc hbs hw
    go_enter Try.func10, Try.ntmps10
    go_wp2_with (first | (go_at_call 14; (with_reducible refine HB.out.mono ?_); rintro e w' ⟨rfl, rfl⟩) | fail)
    go_ret
    exact HF.out
  · have hs := h.ok.sizes
    have l2 := sizeN_len J.wait
    have hn1 : 1 ≤ J.wait.length := by
      rcases hl : J.wait with _ | ⟨x, t⟩
      · exact absurd hl hw
      · rw [List.length_cons]; omega
    have hA := all_any a c J.wait w hbs (by omega) (by omega)
    have hG : Calls Try.prog 33 #[.slice a J.wait.length c] w (Gives (framesL J.wait) w) := hA.mono (fun e w' q => by
      rcases q with q | q
      · exact q.2
      · exact absurd h.ok.wait q.1)
    unfold Gives at hG
    obtain ⟨m, hm⟩ : ∃ m, (framesL J.wait).length = m := ⟨_, rfl⟩
    rw [hm] at hG
    have HG := Lib.hid hG
    have HS := Lib.hid (show ∀ (W1 : World) (a1 : Option Addr) (c1 : Nat), Below w.heap.size w W1 → Own8 w.heap.size W1 (.slice a1 m c1) (framesL J.wait) → Calls Try.prog 34 #[ptr j.B, .slice a1 m c1] W1 fun e w' => StoreE W1 w' p j d J e from fun W1 a1 c1 h1 h2 =>
      store_any p j d J W1 (hd.below h1) (h.below h1) hup hcache hlen hcalls hns (by omega) htop a1 m c1 h2.bys hm.symm h2.cap)
    have HLT := Lib.hid (And.intro hbr (And.intro hw hd.lt))
    obtain ⟨n, hn⟩ : ∃ n, J.wait.length = n := ⟨_, rfl⟩
    rw [hn] at c4 HG hn1
    have iy : ((n : Int) == 0) = false := by simp; omega
    obtain ⟨E, hE⟩ : ∃ E, comE d J = E := ⟨_, rfl⟩
    have HE := Lib.hid hE
    clear hE hd h hbr hup hcache hlen hcalls hns htop hB e hc hbs hw hs l2 hA hG hm hn hn1
    go_enter Try.func10, Try.ntmps10
    go_wp2_with (first
      | (go_at_call 14; (with_reducible refine HB.out.mono ?_); rintro e w' ⟨rfl, rfl⟩)
      | (go_at_call 33; (with_reducible refine HG.out.mono ?_); rintro e W1 ⟨a1, c1, rfl, hO1, hB1⟩; have HSS := Lib.hid (HS.out W1 a1 c1 hB1 hO1); have HB1 := Lib.hid hB1; clear hO1 hB1)
      | (go_at_call 34; (with_reducible refine HSS.out.mono ?_); intro e W2 hq; obtain ⟨rfl, cs, u, hat, hcu, hfin⟩ := com_fin HLT.out.1 HLT.out.2.1 HB1.out HLT.out.2.2 hq; rw [HE.out] at hfin ⊢; have k9 := hat.cell 9; rw [hcu] at k9; have f9 := hat.free 9; have l9 : 9 < cs.size := (Array.getElem?_eq_some_iff.1 hcu).1; have s9 : (W2.setCell ⟨j.B, 9, none⟩ (.int .i64 E)).cell? ⟨j.B, 9, none⟩ = some (.int .i64 E) := (by rw [(hat.set 9 (.int .i64 E)).cell 9]; simp [l9]); have HFIN := Lib.hid hfin; clear hfin hq hat hcu)
      | fail)
    go_ret
    exact HFIN.out
end Go.Proofs.Ytpcbolmidnoaiaa

/- A device that nothing was planned for; a new one. -/
set_option linter.unusedVariables false
set_option linter.unusedSimpArgs false
namespace Go.Proofs.Ytpcbolmidnoaiaa
open Go.RowKit
structure Dv.Calm (d : Dv) : Prop where
  up : d.down = false
  num : d.num = 0
  frm : d.frm ≤ d.calls
theorem Dv.Calm.counted {d : Dv} (h : d.Calm) : d.counted.Calm := by
  refine ⟨?_, h.num, ?_⟩
  · have := h.num; have := h.frm
    show decide (d.calls + 1 - d.frm = d.num) = false
    rw [decide_eq_false_iff_not]
    omega
  · have := h.frm
    show d.frm ≤ d.calls + 1
    omega
theorem Dv.Calm.write {d : Dv} (h : d.Calm) (n : Int) (L : List Int) : (d.write n L).Calm := by
  unfold Dv.write
  split
  · exact h
  · exact Dv.Calm.counted (d := { d with cache := d.cache ++ [(n, L)] }) ⟨h.up, h.num, h.frm⟩
theorem Dv.Calm.flush {d : Dv} (h : d.Calm) : d.flush.Calm := by
  have hc := h.counted
  unfold Dv.flush
  rw [h.up, if_neg (by decide), hc.up, if_neg (by decide)]
  exact ⟨hc.up, hc.num, hc.frm⟩
theorem Dv.Calm.wrs {d : Dv} (h : d.Calm) (place : Nat) (X : List Int) : ∀ k, (wrsN d place X k).Calm
  | 0 => h
  | k + 1 => (Dv.Calm.wrs h place X k).write _ _
theorem Dv.Calm.com {d : Dv} (h : d.Calm) (J : Jv) : (comD d J 4).Calm := (((h.wrs _ _ _).flush).write _ _).flush
theorem com_cache {d : Dv} (h : d.Calm) (J : Jv) : (comD d J 4).cache = [] ∧ (comD d J 4).safe.length = d.safe.length := by
  have h4 := h.com J
  have e4 : comD d J 4 = (comD d J 3).flush := rfl
  have e3 : comD d J 3 = (comD d J 2).write ((1 - J.place : Nat) : Int) (sbL (J.top + 1) (sizeN J.recs + sizeN J.wait)) := rfl
  have e2 : comD d J 2 = (comD d J 1).flush := rfl
  have h1 : (comD d J 1).safe.length = d.safe.length := (wrsN_len d (2 + sizeN J.recs / 128) (logX J) (nSec (logX J))).1
  have c1 : (comD d J 1).Calm := h.wrs _ _ _
  have h2 := (flush_up (d := comD d J 1) c1.flush.up).2
  have h3 := (write_calls (comD d J 2) ((1 - J.place : Nat) : Int) (sbL (J.top + 1) (sizeN J.recs + sizeN J.wait))).2
  have h5 := flush_up (d := comD d J 3) (by rw [← e4]; exact h4.up)
  rw [← e4] at h5
  rw [← e3] at h3
  rw [← e2] at h2
  exact ⟨h5.1, by rw [h5.2, h3, h2, h1]⟩
theorem new_read (m k : Nat) (h : k < m) : (Dv.new m).read ((k : Nat) : Int) = List.replicate 128 0 := by
  show ((lastOf [] ((k : Nat) : Int)).getD ((Dv.new m).at ((k : Nat) : Int))) = _
  show (List.replicate m (List.replicate 128 (0 : Int))).getD ((k : Nat) : Int).toNat [] = _
  rw [Int.toNat_natCast]
  simp [List.getD, h]
theorem zero_word (a : Nat) (h : a = 0 ∨ a = 8 ∨ a = 120) : wordN (List.replicate 128 0) a = 0 := by
  rcases h with rfl | rfl | rfl <;> decide
theorem logIs_new (m : Nat) (h4 : 4 ≤ m) (h : m ≤ 4000) : LogIs (Dv.new m) 0 0 0 [] := by
  have hl : (Dv.new m).safe.length = m := List.length_replicate
  have r0 : (Dv.new m).read ((0 : Nat) : Int) = List.replicate 128 0 := new_read m 0 (by omega)
  have r1 : (Dv.new m).read ((1 - 0 : Nat) : Int) = List.replicate 128 0 := new_read m 1 (by omega)
  refine ⟨rfl, by rw [hl]; exact ⟨h4, h⟩, by omega, ?_, ?_, ?_, ?_, ?_, by omega, Nat.zero_le _, rfl, fun L hL => by cases hL⟩
  · rw [r0]; exact zero_word 0 (.inl rfl)
  · rw [r0]; exact zero_word 120 (.inr (.inr rfl))
  · rw [r0]; exact zero_word 8 (.inr (.inl rfl))
  · intro _; rw [r1]; exact .inr ⟨zero_word 0 (.inl rfl), rfl⟩
  · rw [r1, zero_word 0 (.inl rfl), zero_word 120 (.inr (.inr rfl))]; rfl
theorem new_calm (m : Nat) : (Dv.new m).Calm := ⟨rfl, rfl, Int.le_refl 0⟩
end Go.Proofs.Ytpcbolmidnoaiaa

/- A device and its journal, as the laws hold them. -/
set_option linter.unusedVariables false
set_option linter.unusedSimpArgs false
namespace Go.Proofs.Ytpcbolmidnoaiaa
open Go.RowKit
/-- A calm device with an empty cache and its journal: all that they own lies from B on; n commits were made. -/
structure Jst (B : Nat) (w : World) (p : Pl) (j : JPl) (d : Dv) (J : Jv) (n : Nat) : Prop where
  dev : DevAt w p d
  jat : JAt w p.D j J
  calm : d.Calm
  cache : d.cache = []
  len : d.safe.length = J.len
  calls : d.calls ≤ 300 * (n : Int)
  top : J.top ≤ n
  br : J.broken = 0
  low : (∀ k, own p k → B ≤ k) ∧ (∀ k, jown j k → B ≤ k) ∧ B ≤ w.heap.size
section
variable {B n : Nat} {w w' : World} {p p' : Pl} {j j' : JPl} {d : Dv} {J : Jv}
theorem Jst.below (h : Jst B w p j d J n) (hb : Below w.heap.size w w') : Jst B w' p j d J n :=
  ⟨h.dev.below hb, h.jat.below hb, h.calm, h.cache, h.len, h.calls, h.top, h.br, h.low.1, h.low.2.1, Nat.le_trans h.low.2.2 hb.size⟩
theorem Jst.drewN (h : Jst B w p j d J n) (m : Nat) : Jst B (w.drewN m) p j d J n := h.below (below_dr w m)
theorem Jst.app (h : Jst B w p j d J n) {L : List Int} (ha : appE J L = 0) {e : Ending} (hA : AppE w w' p.D j J L e) : e = .returned (.int .i64 0) ∧ ∃ j', Jst B w' p j' d { J with wait := J.wait ++ [L] } n ∧ j'.B = j.B ∧ Below B w w' := by
  obtain ⟨e1, j', k1, k2⟩ := hA
  rw [ha] at e1
  have e2 : J.app L = { J with wait := J.wait ++ [L] } := if_pos ha
  rw [e2] at k1
  have hb : Below B w w' := k2.upd.below h.low.2.1 h.low.2.2
  exact ⟨e1, j', ⟨h.dev.jupd h.jat k2.upd (fun k e => e), k1, h.calm, h.cache, h.len, h.calls, h.top, h.br, h.low.1, fun k q => (k2.has k q).elim (h.low.2.1 k) (fun e => Nat.le_trans h.low.2.2 e), Nat.le_trans h.low.2.2 hb.size⟩, k2.B, hb⟩
theorem Jst.forget (h : Jst B w p j d J n) (hj : JAt w' p.D j' J.forget) (hB : j'.B = j.B) (hR : j'.vR = j.vR) (hW : j'.vW = (Value.slice none 0 0)) (hu : Upd (fun k => k = j.B) w w') : Jst B w' p j' d J.forget n ∧ Below B w w' := by
  have hb : Below B w w' := hu.below (fun k e => e ▸ h.low.2.1 _ (.inl rfl)) h.low.2.2
  refine ⟨⟨h.dev.jupd h.jat hu (fun k e => .inl e), hj, h.calm, h.cache, h.len, h.calls, h.top, h.br, h.low.1, ?_, Nat.le_trans h.low.2.2 hb.size⟩, hb⟩
  rintro k (q | q | q)
  · rw [q, hB]; exact h.low.2.1 _ (.inl rfl)
  · rw [hR] at q; exact h.low.2.1 _ (.inr (.inl q))
  · rw [hW] at q; cases q
/-- What a commit leaves of the journal of a calm device. -/
def Jv.comN (J : Jv) : Jv := if J.wait = [] then J else J.stored
theorem Jst.commit (h : Jst B w p j d J n) {e : Ending} (hns : nSec (logX J) ≤ 256) (hC : CommitE w w' p j d J e) : e = .returned (.int .i64 0) ∧ ∃ p' j' d', Jst B w' p' j' d' J.comN (n + 1) ∧ p'.D = p.D ∧ j'.B = j.B ∧ Below B w w' := by
  obtain ⟨e1, p', j', k1, k2, k3, k4, k5, k6, k7⟩ := hC
  have hb : Below B w w' := k5.below (fun k e => e.elim (h.low.1 k) (h.low.2.1 k)) h.low.2.2
  have hlow : (∀ k, own p' k → B ≤ k) ∧ (∀ k, jown j' k → B ≤ k) ∧ B ≤ w'.heap.size := ⟨fun k q => (k6 k q).elim (h.low.1 k) (fun e => Nat.le_trans h.low.2.2 e), fun k q => (k7 k q).elim (h.low.2.1 k) (fun e => Nat.le_trans h.low.2.2 e), Nat.le_trans h.low.2.2 hb.size⟩
  have hc := h.calls
  have ht := h.top
  unfold comE at e1
  unfold comDv at k1
  unfold Jv.com at k2
  by_cases hw : J.wait = []
  · rw [if_pos hw] at e1 k1 k2
    refine ⟨e1, p', j', d, ⟨k1, ?_, h.calm, h.cache, ?_, by omega, ?_, ?_, hlow⟩, k3, k4, hb⟩
    · unfold Jv.comN; rw [if_pos hw]; exact k2
    · unfold Jv.comN; rw [if_pos hw]; exact h.len
    · unfold Jv.comN; rw [if_pos hw]; omega
    · unfold Jv.comN; rw [if_pos hw]; exact h.br
  · rw [if_neg hw] at e1 k1 k2
    have hm := h.calm.com J
    have hcc := com_cache h.calm J
    have hcl := comD_calls d J hns 4 (by omega)
    rw [hm.up] at e1 k2
    rw [if_neg (by decide)] at k2
    refine ⟨e1, p', j', comD d J 4, ⟨k1, ?_, hm, hcc.1, ?_, by omega, ?_, ?_, hlow⟩, k3, k4, hb⟩
    · unfold Jv.comN; rw [if_neg hw]; exact k2
    · unfold Jv.comN; rw [if_neg hw, hcc.2]; exact h.len
    · unfold Jv.comN; rw [if_neg hw]; show J.top + 1 ≤ n + 1; omega
    · unfold Jv.comN; rw [if_neg hw]; exact h.br
theorem Jst.commit_any (h : Jst B w p j d J n) (hn : n ≤ 800) (hns : nSec (logX J) ≤ 256) : Calls Try.prog 10 #[ptr j.B] w fun e w' => e = .returned (.int .i64 0) ∧ ∃ p' j' d', Jst B w' p' j' d' J.comN (n + 1) ∧ p'.D = p.D ∧ j'.B = j.B ∧ Below B w w' :=
  (Go.Proofs.Ytpcbolmidnoaiaa.commit_any p j d J w h.dev h.jat h.br h.calm.up h.cache h.len (by have := h.calls; omega) hns (by have := h.top; omega)).mono (fun e w' q => h.commit hns q)
theorem Jst.append_any (h : Jst B w p j d J n) {a : Option Addr} {m c : Nat} {L : List Int} (hb : Bys8 w.heap.size w (.slice a m c) L) (hn : L.length = m) (hr : RecL L) (hroom : 6 + L.length ≤ roomN J) : Calls Try.prog 9 #[ptr j.B, .slice a m c] w fun e w' => e = .returned (.int .i64 0) ∧ ∃ j', Jst B w' p j' d { J with wait := J.wait ++ [L] } n ∧ j'.B = j.B ∧ Below B w w' :=
  (Go.Proofs.Ytpcbolmidnoaiaa.append_any p d j J w h.dev h.jat h.len a m c L hb hn (by have := hr.2; omega)).mono (fun e w' q => h.app (by unfold appE; rw [if_neg (fun e => e h.br), if_neg (fun e => e hr), if_neg (by omega)]) q)
theorem Jst.room_any (h : Jst B w p j d J n) : Calls Try.prog 20 #[ptr j.B] w fun e w' => e = .returned (.int .i64 (roomN J : Nat)) ∧ Jst B w' p j d J n ∧ Below w.heap.size w w' :=
  (Go.Proofs.Ytpcbolmidnoaiaa.room_any p d j J w h.dev h.jat h.len).mono (fun e w' q => ⟨q.1, by obtain ⟨m, e⟩ := q.2; rw [e]; exact h.drewN m, by obtain ⟨m, e⟩ := q.2; rw [e]; exact below_dr w m⟩)
theorem Jst.forget_any (h : Jst B w p j d J n) : Calls Try.prog 21 #[ptr j.B] w fun e w' => e = .returned (.int .i64 (J.wait.length : Nat)) ∧ ∃ j', Jst B w' p j' d J.forget n ∧ j'.B = j.B ∧ Below B w w' :=
  (Go.Proofs.Ytpcbolmidnoaiaa.forget_any j J h.jat).mono (fun e w' q => by
    obtain ⟨e1, j', k1, k2, k3, k4, k5⟩ := q
    obtain ⟨h1, h2⟩ := h.forget k1 k2 k3 k4 k5
    exact ⟨e1, j', h1, k2, h2⟩)
end
/-- A new device and its journal. -/
theorem Jst.opened {w w1 w2 : World} {m : Nat} (h4 : 4 ≤ m) (hm : m ≤ 4000) {p : Pl} (hd : DevAt w1 p (Dv.new m)) (hlow : ∀ k, own p k → w.heap.size ≤ k) (hb : Below w.heap.size w w1) {e : Ending} (hO : OpenE w1 w2 p (jvOf (Dv.new m) 0 0 0 []) e) :
    ∃ j, e = .returned (.tuple #[ptr j.B, .int .i64 0]) ∧ Jst w.heap.size w2 p j (Dv.new m) ⟨[], [], 0, 0, 0, 0, m⟩ 0 ∧ Below w.heap.size w w2 := by
  obtain ⟨j, e1, k1, k2, k3⟩ := hO
  have hs := hb.size
  have hl : (Dv.new m).safe.length = m := List.length_replicate
  have e2 : jvOf (Dv.new m) 0 0 0 [] = ⟨[], [], 0, 0, 0, 0, m⟩ := by unfold jvOf; rw [hl]
  rw [e2] at k1
  exact ⟨j, e1, ⟨hd.below k3, k1, new_calm m, rfl, hl, by show (0 : Int) ≤ _; omega, Nat.le_refl 0, rfl, hlow, fun k q => Nat.le_trans hs (k2 k q), Nat.le_trans hs k3.size⟩, hb.trans (k3.mono hs)⟩
theorem new_open (m : Nat) (h4 : 4 ≤ m) (hm : m ≤ 4000) {p : Pl} {w w1 : World} (hd : DevAt w1 p (Dv.new m)) (hlow : ∀ k, own p k → w.heap.size ≤ k) (hb : Below w.heap.size w w1) :
    Calls Try.prog 8 #[ptr p.D] w1 fun e w2 => ∃ j, e = .returned (.tuple #[ptr j.B, .int .i64 0]) ∧ Jst w.heap.size w2 p j (Dv.new m) ⟨[], [], 0, 0, 0, 0, m⟩ 0 ∧ Below w.heap.size w w2 :=
  (open_any p (Dv.new m) w1 hd 0 0 0 [] (logIs_new m h4 hm)).mono (fun e w2 q => Jst.opened h4 hm hd hlow hb q)
end Go.Proofs.Ytpcbolmidnoaiaa

/- alive. -/
set_option linter.unusedVariables false
set_option linter.unusedSimpArgs false
namespace Go.Proofs.Ytpcbolmidnoaiaa
open Go.RowKit Go.Shelf
theorem jlen_eq {w : World} {D : Nat} {j : JPl} {J : Jv} (h : JAt w D j J) {n : Nat} (hn : J.recs.length = n) : Calls Try.prog 22 #[ptr j.B] w fun e w' => e = .returned (.int .i64 (n : Int)) ∧ w = w' := hn ▸ jlen_any h
theorem ab_same (w W8 : World) (v : Value) (hO : OwnS w W8 v [[97, 98]]) : ∃ a c, v = .slice a 1 c ∧
    Calls Try.prog 17 #[.slice a 1 c, .slice (some ⟨W8.heap.size + 1, 0, none⟩) 1 1] ((W8.alloc (.cells #[.int .u8 97, .int .u8 98] 5 (2, 3))).alloc (.cells #[.slice (some ⟨W8.heap.size, 0, none⟩) 2 2] 23)) fun e w' => e = .returned (.bool true) ∧ Below W8.heap.size W8 w' := by
  obtain ⟨rs, hS, hm⟩ := hO
  obtain ⟨a, c, rfl, hc⟩ := hS.form
  have hl : rs.length = 1 := by have := congrArg List.length hm; simpa using this
  have hb := hS.bss
  rw [hl] at *
  rw [hm] at hb
  have b1 : Below W8.heap.size W8 (W8.alloc (.cells #[.int .u8 97, .int .u8 98] 5 (2, 3))) := (Below.refl _ W8).alloc (Nat.le_refl _) _
  have s1 : (W8.alloc (.cells #[.int .u8 97, .int .u8 98] 5 (2, 3))).heap.size = W8.heap.size + 1 := World.size_alloc _ _
  have b2 : Below (W8.heap.size + 1) (W8.alloc (.cells #[.int .u8 97, .int .u8 98] 5 (2, 3))) ((W8.alloc (.cells #[.int .u8 97, .int .u8 98] 5 (2, 3))).alloc (.cells #[.slice (some ⟨W8.heap.size, 0, none⟩) 2 2] 23)) := (Below.refl _ _).alloc (by rw [s1]; omega) _
  have s2 : ((W8.alloc (.cells #[.int .u8 97, .int .u8 98] 5 (2, 3))).alloc (.cells #[.slice (some ⟨W8.heap.size, 0, none⟩) 2 2] 23)).heap.size = W8.heap.size + 2 := by rw [World.size_alloc, s1]
  have b3 := b1.trans (b2.mono (by omega))
  have hk : BssAt ((W8.alloc (.cells #[.int .u8 97, .int .u8 98] 5 (2, 3))).alloc (.cells #[.slice (some ⟨W8.heap.size, 0, none⟩) 2 2] 23)).heap.size ((W8.alloc (.cells #[.int .u8 97, .int .u8 98] 5 (2, 3))).alloc (.cells #[.slice (some ⟨W8.heap.size, 0, none⟩) 2 2] 23)) (some ⟨W8.heap.size + 1, 0, none⟩) [[97, 98]] := fun i L hi => by
    rcases i with _ | i
    · cases hi
      refine ⟨W8.heap.size + 1, 0, some ⟨W8.heap.size, 0, none⟩, 2, rfl, by rw [s2]; omega, ?_, by simp, ?_⟩
      · have := cell_of_row _ _ 0 _ _ _ (World.alloc_heap_new (W8.alloc (.cells #[.int .u8 97, .int .u8 98] 5 (2, 3))) (.cells #[.slice (some ⟨W8.heap.size, 0, none⟩) 2 2] 23))
        rw [s1] at this
        exact this
      · have h9 := bys8_alloc (T := 5) W8 [97, 98] (by simp) #[.int .u8 97, .int .u8 98] rfl 2 2 rfl (2, 3)
        rw [s1] at h9
        rw [s2]
        exact (h9.below b2).mono (by omega)
    · cases hi
  refine ⟨a, c, rfl, ?_⟩
  refine (same_any a 1 c [[97, 98]] (some ⟨W8.heap.size + 1, 0, none⟩) 1 1 [[97, 98]] _ (hb.from b3 (Nat.le_refl _)) hk rfl rfl (by omega) (by omega)).mono ?_
  rintro e w' ⟨rfl, h2⟩
  exact ⟨by simp, b3.trans (h2.mono b3.size)⟩
set_option maxRecDepth 100000 in
set_option maxHeartbeats 2000000 in
theorem alive_any (w : World) : Calls Try.prog 6 #[] w fun e w' => e = .returned (.bool true) ∧ Below w.heap.size w w' := by
  have hcv := fun (w : World) (C : Array Value) (n c : Nat) => Lib.run_convert_bytes_const (P := Try.prog) w 23 5 C n c Try.underlying23 Try.underlying5
  have hN := new_yes 4 (by decide) (by decide) w
  rw [show ((4 : Nat) : Int) = 4 from rfl] at hN
  have HN := Lib.hid hN
  clear hN
  go_enter Try.func6, Try.ntmps6
  go_wp2_with (first
    | (go_at_call 7; (with_reducible refine HN.out.mono ?_); rintro e W1 ⟨p, rfl, hd1, hf1, hb1⟩; have HOP := Lib.hid (new_open 4 (by decide) (by decide) hd1 hf1 hb1); clear hd1 hf1 hb1)
    | (go_at_call 8; (with_reducible refine HOP.out.mono ?_); rintro e W2 ⟨j, rfl, hS2, hB2⟩; have HB2 := Lib.hid hB2; have hr := hS2.room_any; (rw [show ((roomN ⟨[], [], 0, 0, 0, 0, 4⟩ : Nat) : Int) = 256 from rfl] at hr); have HR := Lib.hid hr; clear hr hS2 hB2)
    | (go_at_call 20; (with_reducible refine HR.out.mono ?_); rintro e W3 ⟨rfl, hS3, hB3⟩
       have hA := (hS3.below ((Below.refl _ W3).alloc (Nat.le_refl _) (.cells #[.int .u8 97, .int .u8 98] 5 (2, 3)))).append_any (bys8_alloc (T := 5) W3 [97, 98] (by simp) #[.int .u8 97, .int .u8 98] rfl 2 2 rfl (2, 3)) rfl ⟨by simp, by simp⟩ (by decide)
       have HAP := Lib.hid hA
       have HB3 := Lib.hid ((HB2.out.trans (hB3.mono HB2.out.size)).alloc hS3.low.2.2 (.cells #[.int .u8 97, .int .u8 98] 5 (2, 3)))
       clear hA hS3 hB3 HR)
    | (go_at_call 9; (with_reducible refine HAP.out.mono ?_); rintro e W4 ⟨rfl, j4, hS4, hjB4, hB4⟩
       have hr := hS4.room_any
       (rw [hjB4] at hr)
       (rw [show ((roomN ({ (⟨[], [], 0, 0, 0, 0, 4⟩ : Jv) with wait := (⟨[], [], 0, 0, 0, 0, 4⟩ : Jv).wait ++ [[97, 98]] } : Jv) : Nat) : Int) = 248 from by decide +kernel] at hr)
       have HR5 := Lib.hid hr
       have HB4 := Lib.hid (And.intro hjB4 (HB3.out.trans hB4))
       clear hr hS4 hB4 hjB4 HAP)
    | (go_at_call 20; (with_reducible refine HR5.out.mono ?_); rintro e W5 ⟨rfl, hS5, hB5⟩
       have hl := jlen_eq hS5.jat (n := 0) rfl
       have hc := hS5.commit_any (by decide) (by unfold nSec; rw [logX_len]; decide +kernel)
       (rw [HB4.out.1] at hl hc)
       (rw [show ((0 : Nat) : Int) = 0 from rfl] at hl)
       have HLN := Lib.hid hl
       have HCM := Lib.hid hc
       have HB5 := Lib.hid (HB4.out.2.trans (hB5.mono HB4.out.2.size))
       clear hl hc hS5 hB5 HR5)
    | (go_at_call 22; (with_reducible refine HLN.out.mono ?_); rintro e w' ⟨rfl, rfl⟩; clear HLN)
    | (go_at_call 10; (with_reducible refine HCM.out.mono ?_); rintro e W6 ⟨rfl, p6, j6, d6, hS6, hp6, hjB6, hB6⟩
       have hl := jlen_eq hS6.jat (n := 1) rfl
       have hn := number_any hS6.jat
       have hr := records_any j6 _ hS6.jat
       (rw [hjB6] at hl hn hr)
       (rw [show ((1 : Nat) : Int) = 1 from rfl] at hl)
       unfold CopiedE at hr
       have HL6 := Lib.hid hl
       have HN6 := Lib.hid (show Calls Try.prog 18 #[ptr j.B] W6 fun e w' => e = .returned (.int .u64 1) ∧ W6 = w' from hn)
       have HR6 := Lib.hid (show Calls Try.prog 11 #[ptr j.B] W6 fun e w' => ∃ v, e = .returned v ∧ OwnS W6 w' v [[97, 98]] ∧ Below W6.heap.size W6 w' from hr)
       have HB6 := Lib.hid (And.intro (HB5.out.trans hB6) hS6.low.2.2)
       clear hl hn hr hS6 hB6 hp6 hjB6)
    | (go_at_call 22; (with_reducible refine HL6.out.mono ?_); rintro e w' ⟨rfl, rfl⟩; clear HL6)
    | (go_at_call 18; (with_reducible refine HN6.out.mono ?_); rintro e w' ⟨rfl, rfl⟩; clear HN6)
    | (go_at_call 11; (with_reducible refine HR6.out.mono ?_); rintro e W8 ⟨v, rfl, hO8, hB8⟩; obtain ⟨a8, c8, rfl, hsm⟩ := ab_same _ _ _ hO8; have HSM := Lib.hid hsm; have HB8 := Lib.hid (And.intro (HB6.out.1.trans (hB8.mono HB6.out.2)) (Nat.le_trans HB6.out.2 hB8.size)); clear hO8 hB8 hsm HR6)
    | (go_at_call 17; (with_reducible refine HSM.out.mono ?_); rintro e W9 ⟨rfl, hB9⟩; have HB9 := Lib.hid (HB8.out.1.trans (hB9.mono HB8.out.2)); clear hB9)
    | fail)
  go_ret
  exact ⟨rfl, HB9.out⟩
end Go.Proofs.Ytpcbolmidnoaiaa

/- The walk of JournalRoom. -/
set_option linter.unusedVariables false
set_option linter.unusedSimpArgs false
namespace Go.Proofs.Ytpcbolmidnoaiaa
open Go.RowKit Go.Shelf
theorem Jst.mono {B : Nat} {w : World} {p : Pl} {j : JPl} {d : Dv} {J : Jv} {n m : Nat} (h : Jst B w p j d J n) (hnm : n ≤ m) : Jst B w p j d J m :=
  ⟨h.dev, h.jat, h.calm, h.cache, h.len, by have := h.calls; omega, by have := h.top; omega, h.br, h.low⟩
theorem meas_next {K k : Nat} (h : k < K) : ((K : Int) - intOf (.int .i64 ((k : Int) + 1))).toNat < ((K : Int) - intOf (.int .i64 (k : Int))).toNat := by
  show ((K : Int) - ((k : Int) + 1)).toNat < ((K : Int) - (k : Int)).toNat
  omega
theorem take_sum (ls : List (List Int)) (q : Nat) (h : q < ls.length) : sizeN (ls.take (q + 1)) = sizeN (ls.take q) + 6 + (ls.getD q []).length := by
  rw [List.take_succ_eq_append_getElem h, sizeN_app, sizeN_cons]
  have : sizeN [] = 0 := rfl
  have e : ls.getD q [] = ls[q] := by simp [List.getD, h]
  rw [e]
  omega
theorem tmod_7 (a c : Nat) (h : a % 7 = c) : (a : Int).tmod 7 = (c : Int) := by subst h; exact (Int.ofNat_tmod a 7).symm
theorem tmod_4 (a c : Nat) (h : a % 4 = c) : (a : Int).tmod 4 = (c : Int) := by subst h; exact (Int.ofNat_tmod a 4).symm
structure RmI (w : World) (jB k s : Nat) (wr : World) (p : Pl) (j : JPl) (d : Dv) (J : Jv) : Prop where
  st : Jst w.heap.size wr p j d J k
  B : j.B = jB
  bel : Below w.heap.size w wr
  len : J.len = 300
  size : sizeN J.recs + sizeN J.wait ≤ 1006 * s
theorem room_app {J : Jv} {L : List Int} : roomN { J with wait := J.wait ++ [L] } = roomN J - 6 - L.length := by
  unfold roomN
  show (J.len - 2) * 128 - sizeN J.recs - sizeN (J.wait ++ [L]) = _
  rw [sizeN_app, sizeN_cons]
  have : sizeN [] = 0 := rfl
  omega
theorem room_forget {J : Jv} (h : J.Ok) : roomN J.forget = roomN J + sizeN J.wait := by
  have := h.fits
  unfold roomN
  show (J.len - 2) * 128 - sizeN J.recs - 0 = _
  omega
theorem room_com (J : Jv) : roomN J.comN = roomN J ∧ J.comN.recs.length = J.recs.length + J.wait.length ∧ J.comN.len = J.len ∧ sizeN J.comN.recs + sizeN J.comN.wait = sizeN J.recs + sizeN J.wait := by
  unfold Jv.comN
  by_cases h : J.wait = []
  · rw [if_pos h, h]; exact ⟨rfl, rfl, rfl, rfl⟩
  · rw [if_neg h]
    unfold Jv.stored roomN
    refine ⟨?_, List.length_append, rfl, ?_⟩
    · show (J.len - 2) * 128 - sizeN (J.recs ++ J.wait) - 0 = _
      rw [sizeN_app]; omega
    · show sizeN (J.recs ++ J.wait) + 0 = _
      rw [sizeN_app]; omega
theorem RmI.app {w wr w6 : World} {jB k m : Nat} {p : Pl} {j j5 : JPl} {d : Dv} {J : Jv} {L : List Int} (h : RmI w jB k k wr p j d J) (hL : L.length = m) (hm : m ≤ 1000) (hs : Jst w.heap.size w6 p j5 d { J with wait := J.wait ++ [L] } k) (hB : j5.B = jB) (hb : Below w.heap.size w w6) : RmI w jB k (k + 1) w6 p j5 d { J with wait := J.wait ++ [L] } := by
  refine ⟨hs, hB, hb, h.len, ?_⟩
  have := h.size
  show sizeN J.recs + sizeN (J.wait ++ [L]) ≤ _
  rw [sizeN_app, sizeN_cons]
  have : sizeN [] = 0 := rfl
  omega
theorem RmI.waits {w wr : World} {jB k s : Nat} {p : Pl} {j : JPl} {d : Dv} {J : Jv} (h : RmI w jB k s wr p j d J) {n : Nat} (hn : J.wait.length = n) : Calls Try.prog 12 #[ptr jB] wr fun e w' => ∃ a c, e = .returned (.slice a n c) ∧ BssAt w'.heap.size w' a J.wait ∧ RmI w jB k s w' p j d J := by
  have hw := waiting_any j J h.st.jat
  rw [h.B] at hw
  refine hw.mono ?_
  rintro e w' ⟨v, rfl, ⟨rs, hS, hm⟩, hb⟩
  obtain ⟨a, c, rfl, hc⟩ := hS.form
  have hl : rs.length = n := by rw [← hn, ← hm, List.length_map]
  have hbs := hS.bss
  rw [hm] at hbs
  rw [hl]
  exact ⟨a, c, rfl, hbs, h.st.below hb, h.B, h.bel.trans (hb.mono h.bel.size), h.len, h.size⟩
theorem RmI.room {w wr : World} {jB k s : Nat} {p : Pl} {j : JPl} {d : Dv} {J : Jv} (h : RmI w jB k s wr p j d J) {n : Nat} (hn : roomN J = n) : Calls Try.prog 20 #[ptr jB] wr fun e w' => e = .returned (.int .i64 (n : Int)) ∧ RmI w jB k s w' p j d J := by
  have hr := h.st.room_any
  rw [h.B, hn] at hr
  refine hr.mono ?_
  rintro e w' ⟨rfl, hs, hb⟩
  exact ⟨rfl, hs, h.B, h.bel.trans (hb.mono h.bel.size), h.len, h.size⟩
theorem RmI.forget {w wr : World} {jB k s : Nat} {p : Pl} {j : JPl} {d : Dv} {J : Jv} (h : RmI w jB k s wr p j d J) {n : Nat} (hn : J.wait.length = n) : Calls Try.prog 21 #[ptr jB] wr fun e w' => e = .returned (.int .i64 (n : Int)) ∧ ∃ j', RmI w jB k s w' p j' d J.forget := by
  have hr := h.st.forget_any
  rw [h.B, hn] at hr
  refine hr.mono ?_
  rintro e w' ⟨rfl, j', hs, hB, hb⟩
  refine ⟨rfl, j', hs, hB, h.bel.trans hb, h.len, ?_⟩
  have := h.size
  show sizeN J.recs + 0 ≤ _
  omega
theorem RmI.lens {w wr : World} {jB k s : Nat} {p : Pl} {j : JPl} {d : Dv} {J : Jv} (h : RmI w jB k s wr p j d J) {n : Nat} (hn : J.recs.length = n) : Calls Try.prog 22 #[ptr jB] wr fun e w' => e = .returned (.int .i64 (n : Int)) ∧ wr = w' := by
  have hr := jlen_eq h.st.jat hn
  rw [h.B] at hr
  exact hr
theorem RmI.commit {w wr : World} {jB k s : Nat} {p : Pl} {j : JPl} {d : Dv} {J : Jv} (h : RmI w jB k s wr p j d J) (hk : k ≤ 100) (hs : s ≤ 31) : Calls Try.prog 10 #[ptr jB] wr fun e w' => e = .returned (.int .i64 0) ∧ ∃ p' j' d', RmI w jB (k + 1) s w' p' j' d' J.comN := by
  have hsz := h.size
  have hr := h.st.commit_any (by omega) (by unfold nSec; rw [logX_len]; omega)
  rw [h.B] at hr
  refine hr.mono ?_
  rintro e w' ⟨rfl, p', j', d', hs', _, hB, hb⟩
  obtain ⟨_, _, r3, r4⟩ := room_com J
  exact ⟨rfl, p', j', d', hs', hB, h.bel.trans hb, by rw [r3]; exact h.len, by rw [r4]; exact hsz⟩
theorem RmI.up {w wr : World} {jB k s n : Nat} {p : Pl} {j : JPl} {d : Dv} {J : Jv} (h : RmI w jB k s wr p j d J) (hn : k ≤ n) : RmI w jB n s wr p j d J := ⟨h.st.mono hn, h.B, h.bel, h.len, h.size⟩
set_option maxRecDepth 100000 in
set_option maxHeartbeats 4000000 in
theorem room_w (a0 : Option Addr) (n0 c0 : Nat) (ls : List (List Int)) (f : Nat) (w : World) (hb : BssAt w.heap.size w a0 ls) (hn : ls.length = n0) (hc : n0 ≤ c0) (hf : f < 256) :
    Calls Try.prog 5 #[.slice a0 n0 c0, .int .u8 (f : Int)] w fun e w' => e = .returned (.bool true) ∧ Below w.heap.size w w' := by
  have HA := Lib.hid (alive_any w)
  by_cases h30 : 30 < n0
  · have i1 : (30 : Int) < (n0 : Int) := by omega
    clear hb hn hc hf h30
    go_enter Try.func5, Try.ntmps5
    go_wp2_with (first | (go_at_call 6; (with_reducible refine HA.out.mono ?_); rintro e w1 ⟨rfl, hB1⟩; have HB1 := Lib.hid hB1; clear hB1) | fail)
    go_ret
    exact ⟨rfl, HB1.out⟩
  · have i1 : ¬ (30 : Int) < (n0 : Int) := by omega
    have hN : ∀ Z, Calls Try.prog 7 #[.int .i64 300] Z fun e w' => NewD Z w' 300 e := fun Z => new_yes 300 (by decide) (by decide) Z
    have HN := Lib.hid hN
    have HX := Lib.hid hb
    have HL := Lib.hid (And.intro hn (And.intro hc (And.intro hf (show n0 ≤ 30 by omega))))
    clear hN hb hn hc hf h30
    go_enter Try.func5, Try.ntmps5
    go_wp2_with (first
      | (go_at_call 6; (with_reducible refine HA.out.mono ?_); rintro e w1 ⟨rfl, hB1⟩; have HB1 := Lib.hid hB1; clear hB1)
      | (go_at_call 7; (with_reducible refine (HN.out _).mono ?_); rintro e w2 ⟨p, rfl, hd1, hf1, hb1⟩
         have HOP := Lib.hid (new_open 300 (by decide) (by decide) hd1 (fun k q => Nat.le_trans HB1.out.size (hf1 k q)) (HB1.out.trans (hb1.mono HB1.out.size)))
         clear hd1 hf1 hb1)
      | (go_at_call 8; (with_reducible refine HOP.out.mono ?_); rintro e w3 ⟨j, rfl, hS3, hB3⟩; have HS3 := Lib.hid hS3; have HB3 := Lib.hid hB3; clear hS3 hB3)
      | fail)
    obtain ⟨jB, hjB⟩ : ∃ jB, j.B = jB := ⟨_, rfl⟩
    have HJB := Lib.hid hjB
    rw [hjB]
    clear hjB
    go_loopw [41] (fun i wr => ∃ (k : Nat) (p' : Pl) (j' : JPl) (d' : Dv) (J' : Jv), k ≤ n0 ∧ i = .int .i64 (k : Int) ∧ RmI w jB k k wr p' j' d' J') (fun i _ => (n0 - intOf i).toNat)
    case atStart => exact ⟨0, p, j, _, _, Nat.zero_le _, rfl, HS3.out, HJB.out, HB3.out, rfl, Nat.le_refl 0⟩
    case round =>
      obtain ⟨k, p1, j1, d1, J1, hk, rfl, hI⟩ := hrel
      by_cases hlt : k < n0
      · have i2 : (k : Int) < n0 := by omega
        have in0 : (0 : Int) ≤ (k : Int) := by omega
        have HWK := Lib.hid (wrap_succ (k := k) (by have := HL.out; omega))
        obtain ⟨b, o, a2, c2, rfl, hbb, h0, h1, h2⟩ := HX.out.at k (by have := HL.out; omega)
        have kw := (hI.bel.cell (p := ⟨b, o + k, none⟩) hbb).trans h0
        obtain ⟨L, hL⟩ : ∃ L, ls.getD k [] = L := ⟨_, rfl⟩
        rw [hL] at kw h0 h1 h2
        obtain ⟨m, hm⟩ : ∃ m, L.length = m := ⟨_, rfl⟩
        rw [hm] at kw h0 h1 h2
        have HI := Lib.hid hI
        have HLL := Lib.hid (And.intro hbb (And.intro h0 (And.intro h1 (And.intro h2 (And.intro hm hlt)))))
        clear hI hbb h0 h1 h2 hm hlt hL
        by_cases hm0 : m = 0
        · have iy : ((m : Int) == 0) = true := by simp [hm0]
          clear hm0
          go_wp2_with fail
          go_ret
          exact ⟨rfl, HI.out.bel⟩
        · have iy : ((m : Int) == 0) = false := by simp [hm0]
          by_cases hm1 : 1000 < m
          · have i3 : (1000 : Int) < (m : Int) := by omega
            clear hm0 hm1
            go_wp2_with fail
            go_ret
            exact ⟨rfl, HI.out.bel⟩
          · have i3 : ¬ (1000 : Int) < (m : Int) := by omega
            have HM := Lib.hid (show 1 ≤ m ∧ m ≤ 1000 by omega)
            have hr := HI.out.st.room_any
            rw [HI.out.B] at hr
            obtain ⟨r, hrr⟩ : ∃ r, roomN J1 = r := ⟨_, rfl⟩
            rw [hrr] at hr
            have hr6 : 6 + m ≤ r ∧ r ≤ 40000 := by
              rw [← hrr]
              have := HI.out.size; have := HI.out.len; have := HL.out
              unfold roomN; rw [HI.out.len]; omega
            have HR := Lib.hid hr
            have HRR := Lib.hid hrr
            obtain ⟨r1, hr1⟩ : ∃ r1, r - 6 = r1 := ⟨_, rfl⟩
            obtain ⟨r2, hr2⟩ : ∃ r2, r1 - m = r2 := ⟨_, rfl⟩
            have e1 : IntKind.i64.wrap ((r : Int) - 6) = (r1 : Int) := by rw [IntKind.wrap_i64]; omega
            have e2 : IntKind.i64.wrap ((r1 : Int) - (m : Int)) = (r2 : Int) := by rw [IntKind.wrap_i64]; omega
            have HW := Lib.hid (And.intro e1 e2)
            have HR6 := Lib.hid (And.intro hr6 (And.intro hr1 hr2))
            clear hm0 hm1 hr hrr hr6 hr1 hr2 e1 e2
            go_wp2_with (first
              | (go_at_call 20; (with_reducible refine HR.out.mono ?_); rintro e w4 ⟨rfl, hS4, hB4⟩; have HS4 := Lib.hid hS4; have HB4 := Lib.hid (And.intro hB4 (HI.out.bel.trans (hB4.mono HI.out.bel.size))); clear hS4 hB4 HR)
              | fail)
            have q14 : (fun Z : World => Z.cell? ⟨b, o + k, none⟩ = some (.slice a2 m c2)) w4.drew := (HB4.out.2.cell (p := ⟨b, o + k, none⟩) HLL.out.1).trans HLL.out.2.1
            have hap := (HS4.out.below ((Below.refl _ w4).drew)).append_any (((HLL.out.2.2.2.1.below HB4.out.2.drew)).mono HB4.out.2.size) HLL.out.2.2.2.2.1 (by unfold RecL; rw [HLL.out.2.2.2.2.1]; have := HM.out; omega) (by rw [HRR.out, HLL.out.2.2.2.2.1]; exact HR6.out.1.1)
            rw [HI.out.B] at hap
            have HAP := Lib.hid hap
            clear hap
            refine regionL (fun Z : World => Z.cell? ⟨b, o + k, none⟩ = some (.slice a2 m c2)) 19 (by kernel_rfl) ?_
            refine takeL (i := 0) (oi := { dst := some 61, op := Go.Op.move (Go.Operand.tmp 8), type := 31, pos := "outright.go:178", after := #[], guard := none }) (v := ptr jB) [19, 18, 17, 16, 15, 14, 13, 12, 11, 10, 9, 8, 7, 6, 5] rfl (by kernel_rfl) (by kernel_rfl) (by kernel_rfl) (by kernel_rfl) (fun _ _ _ h => calm_panic h) rfl ?_ q14 ?_
            · intro Z hZ; go_simp
            simp only [Act.put, List.setIfInBounds_toArray, List.set_cons_zero, List.set_cons_succ]
            refine takeL (i := 1) (oi := { dst := some 62, op := Go.Op.move (Go.Operand.tmp 0), type := 22, pos := "outright.go:178", after := #[], guard := none }) (v := .slice (some ⟨b, o, none⟩) n0 c0) [19, 18, 17, 16, 15, 14, 13, 12, 11, 10, 9, 8, 7, 6, 5, 4, 3] rfl (by kernel_rfl) (by kernel_rfl) (by kernel_rfl) (by kernel_rfl) (fun _ _ _ h => calm_panic h) rfl ?_ q14 ?_
            · intro Z hZ; go_simp
            simp only [Act.put, List.setIfInBounds_toArray, List.set_cons_zero, List.set_cons_succ]
            refine takeL (i := 2) (oi := { dst := some 63, op := Go.Op.move (Go.Operand.tmp 10), type := 3, pos := "outright.go:178", after := #[], guard := none }) (v := .int .i64 (k : Int)) [19, 18, 17, 16, 15, 14, 13, 12, 11, 10, 9, 8, 7, 6, 5, 4, 3] rfl (by kernel_rfl) (by kernel_rfl) (by kernel_rfl) (by kernel_rfl) (fun _ _ _ h => calm_panic h) rfl ?_ q14 ?_
            · intro Z hZ; go_simp
            simp only [Act.put, List.setIfInBounds_toArray, List.set_cons_zero, List.set_cons_succ]
            refine takeL (i := 3) (oi := { dst := some 64, op := Go.Op.indexAddr 22 (Go.Operand.tmp 62) (Go.Operand.tmp 63), type := 0, pos := "outright.go:178", after := #[{ on := 1, ground := Go.Ground.data }, { on := 2, ground := Go.Ground.data }], guard := none }) (v := .pointer (some ⟨b, o + k, none⟩)) [19, 18, 17, 16, 15, 14, 13, 12, 11, 10, 9, 8, 7, 6, 5, 4] rfl (by kernel_rfl) (by kernel_rfl) (by kernel_rfl) (by kernel_rfl) (fun _ _ _ h => calm_panic h) rfl ?_ q14 ?_
            · intro Z hZ; go_simp
            simp only [Act.put, List.setIfInBounds_toArray, List.set_cons_zero, List.set_cons_succ]
            refine takeL (i := 4) (oi := { dst := some 65, op := Go.Op.load 23 (Go.Operand.tmp 64), type := 23, pos := "outright.go:178", after := #[{ on := 3, ground := Go.Ground.data }], guard := none }) (v := .slice a2 m c2) [19, 18, 17, 16, 15, 14, 13, 12, 11, 10, 9, 8, 7, 6, 5] rfl (by kernel_rfl) (by kernel_rfl) (by kernel_rfl) (by kernel_rfl) (fun _ _ _ h => calm_panic h) rfl ?_ q14 ?_
            · intro Z hZ; have z1 := hZ; go_simp
            simp only [Act.put, List.setIfInBounds_toArray, List.set_cons_zero, List.set_cons_succ]
            refine oneL (i := 5) (o := { dst := some 66, op := Go.Op.call { callee := Go.Callee.value (Go.Operand.func 9), args := #[Go.Operand.tmp 61, Go.Operand.tmp 65], argTypes := #[31, 23] }, type := 28, pos := "outright.go:178", after := #[{ on := 0, ground := Go.Ground.data }, { on := 4, ground := Go.Ground.data }], guard := none }) rfl (by kernel_rfl) rfl ?_
            refine wp_by_call (f := 9) (args := #[ptr jB, .slice a2 m c2]) (by go_simp) (HAP.out.mono ?_)
            rintro e w5 ⟨rfl, j5, hS5, hjB5, hB5⟩
            have hBe : Below w.heap.size w w5 := HB4.out.2.drew.trans hB5
            have q15 : (fun Z : World => Z.cell? ⟨b, o + k, none⟩ = some (.slice a2 m c2)) w5 := (hBe.cell (p := ⟨b, o + k, none⟩) HLL.out.1).trans HLL.out.2.1
            have hr5 := hS5.room_any
            rw [hjB5, room_app, HRR.out, HLL.out.2.2.2.2.1, HR6.out.2.1, HR6.out.2.2] at hr5
            have HR5 := Lib.hid hr5
            have HJ5 := Lib.hid (And.intro hjB5 hBe)
            clear hS5 hjB5 hB5 hr5 hBe q14
            refine ⟨_, rfl, fun _ => q15, ?_⟩
            simp only [Act.put, List.setIfInBounds_toArray, List.set_cons_zero, List.set_cons_succ]
            refine takeL (i := 6) (oi := { dst := some 67, op := Go.Op.binOp Go.BinOp.neq 28 (Go.Operand.tmp 66) (Go.Operand.const (Go.Value.int Go.IntKind.i64 0)) 28, type := 4, pos := "outright.go:178", after := #[{ on := 5, ground := Go.Ground.data }], guard := none }) (v := .bool false) [19, 18, 17, 16, 15, 14, 13, 12, 11, 10, 9, 8, 7] rfl (by kernel_rfl) (by kernel_rfl) (by kernel_rfl) (by kernel_rfl) (fun _ _ _ h => calm_panic h) rfl ?_ q15 ?_
            · intro Z hZ; go_simp
            simp only [Act.put, List.setIfInBounds_toArray, List.set_cons_zero, List.set_cons_succ]
            refine takeL (i := 7) (oi := { dst := some 68, op := Go.Op.move (Go.Operand.tmp 67), type := 4, pos := "outright.go:178", after := #[{ on := 6, ground := Go.Ground.data }, { on := 5, ground := Go.Ground.chain }], guard := none }) (v := .bool false) [19, 18, 17, 16, 15, 14, 13, 12, 11, 10, 9, 8] rfl (by kernel_rfl) (by kernel_rfl) (by kernel_rfl) (by kernel_rfl) (fun _ _ _ h => calm_panic h) rfl ?_ q15 ?_
            · intro Z hZ; go_simp
            simp only [Act.put, List.setIfInBounds_toArray, List.set_cons_zero, List.set_cons_succ]
            refine takeY (i := 8) (oi := { dst := some 69, op := Go.Op.move (Go.Operand.tmp 8), type := 31, pos := "outright.go:178", after := #[{ on := 7, ground := Go.Ground.guard }], guard := some (7, false) }) (v := ptr jB) [19, 18, 9] rfl (by kernel_rfl) (by kernel_rfl) (by kernel_rfl) (by kernel_rfl) (fun _ _ _ h => calm_panic h) (.inl ⟨rfl, ?_⟩) q15 ?_
            · intro Z hZ; go_simp
            simp only [Act.put, List.setIfInBounds_toArray, List.set_cons_zero, List.set_cons_succ]
            refine takeY (i := 10) (oi := { dst := some 71, op := Go.Op.move (Go.Operand.tmp 11), type := 3, pos := "outright.go:178", after := #[{ on := 7, ground := Go.Ground.guard }], guard := some (7, false) }) (v := .int .i64 (r : Int)) [19, 18, 17, 11] rfl (by kernel_rfl) (by kernel_rfl) (by kernel_rfl) (by kernel_rfl) (fun _ _ _ h => calm_panic h) (.inl ⟨rfl, ?_⟩) q15 ?_
            · intro Z hZ; go_simp
            simp only [Act.put, List.setIfInBounds_toArray, List.set_cons_zero, List.set_cons_succ]
            refine takeY (i := 11) (oi := { dst := some 72, op := Go.Op.binOp Go.BinOp.sub 3 (Go.Operand.tmp 71) (Go.Operand.const (Go.Value.int Go.IntKind.i64 6)) 3, type := 3, pos := "outright.go:178", after := #[{ on := 10, ground := Go.Ground.data }, { on := 7, ground := Go.Ground.guard }], guard := some (7, false) }) (v := .int .i64 (r1 : Int)) [19, 18, 17] rfl (by kernel_rfl) (by kernel_rfl) (by kernel_rfl) (by kernel_rfl) (fun _ _ _ h => calm_panic h) (.inl ⟨rfl, ?_⟩) q15 ?_
            · intro Z hZ; have e := HW.out.1; go_simp
            simp only [Act.put, List.setIfInBounds_toArray, List.set_cons_zero, List.set_cons_succ]
            refine takeY (i := 12) (oi := { dst := some 73, op := Go.Op.move (Go.Operand.tmp 0), type := 22, pos := "outright.go:178", after := #[{ on := 7, ground := Go.Ground.guard }], guard := some (7, false) }) (v := .slice (some ⟨b, o, none⟩) n0 c0) [19, 18, 17, 16, 15, 14] rfl (by kernel_rfl) (by kernel_rfl) (by kernel_rfl) (by kernel_rfl) (fun _ _ _ h => calm_panic h) (.inl ⟨rfl, ?_⟩) q15 ?_
            · intro Z hZ; go_simp
            simp only [Act.put, List.setIfInBounds_toArray, List.set_cons_zero, List.set_cons_succ]
            refine takeY (i := 13) (oi := { dst := some 74, op := Go.Op.move (Go.Operand.tmp 10), type := 3, pos := "outright.go:178", after := #[{ on := 7, ground := Go.Ground.guard }], guard := some (7, false) }) (v := .int .i64 (k : Int)) [19, 18, 17, 16, 15, 14] rfl (by kernel_rfl) (by kernel_rfl) (by kernel_rfl) (by kernel_rfl) (fun _ _ _ h => calm_panic h) (.inl ⟨rfl, ?_⟩) q15 ?_
            · intro Z hZ; go_simp
            simp only [Act.put, List.setIfInBounds_toArray, List.set_cons_zero, List.set_cons_succ]
            refine takeY (i := 14) (oi := { dst := some 75, op := Go.Op.indexAddr 22 (Go.Operand.tmp 73) (Go.Operand.tmp 74), type := 0, pos := "outright.go:178", after := #[{ on := 12, ground := Go.Ground.data }, { on := 13, ground := Go.Ground.data }, { on := 7, ground := Go.Ground.guard }], guard := some (7, false) }) (v := .pointer (some ⟨b, o + k, none⟩)) [19, 18, 17, 16, 15] rfl (by kernel_rfl) (by kernel_rfl) (by kernel_rfl) (by kernel_rfl) (fun _ _ _ h => calm_panic h) (.inl ⟨rfl, ?_⟩) q15 ?_
            · intro Z hZ; go_simp
            simp only [Act.put, List.setIfInBounds_toArray, List.set_cons_zero, List.set_cons_succ]
            refine takeY (i := 15) (oi := { dst := some 76, op := Go.Op.load 23 (Go.Operand.tmp 75), type := 23, pos := "outright.go:178", after := #[{ on := 14, ground := Go.Ground.data }, { on := 7, ground := Go.Ground.guard }], guard := some (7, false) }) (v := .slice a2 m c2) [19, 18, 17, 16] rfl (by kernel_rfl) (by kernel_rfl) (by kernel_rfl) (by kernel_rfl) (fun _ _ _ h => calm_panic h) (.inl ⟨rfl, ?_⟩) q15 ?_
            · intro Z hZ; have z1 := hZ; go_simp
            simp only [Act.put, List.setIfInBounds_toArray, List.set_cons_zero, List.set_cons_succ]
            refine takeY (i := 16) (oi := { dst := some 77, op := Go.Op.call { callee := Go.Callee.builtin Go.Builtin.len, args := #[Go.Operand.tmp 76], argTypes := #[23] }, type := 3, pos := "outright.go:178", after := #[{ on := 15, ground := Go.Ground.data }, { on := 7, ground := Go.Ground.guard }], guard := some (7, false) }) (v := .int .i64 (m : Int)) [19, 18, 17] rfl (by kernel_rfl) (by kernel_rfl) (by kernel_rfl) (by kernel_rfl) (fun _ _ _ h => calm_panic h) (.inl ⟨rfl, ?_⟩) q15 ?_
            · intro Z hZ; go_simp
            simp only [Act.put, List.setIfInBounds_toArray, List.set_cons_zero, List.set_cons_succ]
            refine takeY (i := 17) (oi := { dst := some 78, op := Go.Op.binOp Go.BinOp.sub 3 (Go.Operand.tmp 72) (Go.Operand.tmp 77) 3, type := 3, pos := "outright.go:178", after := #[{ on := 11, ground := Go.Ground.data }, { on := 16, ground := Go.Ground.data }, { on := 7, ground := Go.Ground.guard }], guard := some (7, false) }) (v := .int .i64 (r2 : Int)) [19, 18] rfl (by kernel_rfl) (by kernel_rfl) (by kernel_rfl) (by kernel_rfl) (fun _ _ _ h => calm_panic h) (.inl ⟨rfl, ?_⟩) q15 ?_
            · intro Z hZ; have e := HW.out.2; go_simp
            simp only [Act.put, List.setIfInBounds_toArray, List.set_cons_zero, List.set_cons_succ]
            refine oneW (i := 9) (o := { dst := some 70, op := Go.Op.call { callee := Go.Callee.value (Go.Operand.func 20), args := #[Go.Operand.tmp 69], argTypes := #[31] }, type := 3, pos := "outright.go:178", after := #[{ on := 8, ground := Go.Ground.data }, { on := 7, ground := Go.Ground.chain }, { on := 7, ground := Go.Ground.guard }], guard := some (7, false) }) rfl (by kernel_rfl) rfl ?_
            refine wp_by_call (f := 20) (args := #[ptr jB]) (by go_simp) (HR5.out.mono ?_)
            rintro e w6 ⟨rfl, hS6, hB6⟩
            have hBe : Below w.heap.size w w6 := HJ5.out.2.trans (hB6.mono HJ5.out.2.size)
            have q16 : (fun Z : World => Z.cell? ⟨b, o + k, none⟩ = some (.slice a2 m c2)) w6 := (hBe.cell (p := ⟨b, o + k, none⟩) HLL.out.1).trans HLL.out.2.1
            have HS6 := Lib.hid hS6
            have HB6 := Lib.hid hBe
            clear hS6 hB6 hBe q15 HR5
            refine ⟨_, rfl, fun _ => q16, ?_⟩
            simp only [Act.put, List.setIfInBounds_toArray, List.set_cons_zero, List.set_cons_succ]
            refine takeY (i := 18) (oi := { dst := some 79, op := Go.Op.binOp Go.BinOp.neq 3 (Go.Operand.tmp 70) (Go.Operand.tmp 78) 3, type := 4, pos := "outright.go:178", after := #[{ on := 9, ground := Go.Ground.data }, { on := 17, ground := Go.Ground.data }, { on := 7, ground := Go.Ground.guard }], guard := some (7, false) }) (v := .bool false) [19] rfl (by kernel_rfl) (by kernel_rfl) (by kernel_rfl) (by kernel_rfl) (fun _ _ _ h => calm_panic h) (.inl ⟨rfl, ?_⟩) q16 ?_
            · intro Z hZ; go_simp
            simp only [Act.put, List.setIfInBounds_toArray, List.set_cons_zero, List.set_cons_succ]
            refine oneL (i := 19) (o := { dst := some 80, op := Go.Op.pick (Go.Operand.tmp 68) (Go.Operand.const (Go.Value.bool true)) (Go.Operand.tmp 79), type := 4, pos := "outright.go:178", after := #[{ on := 7, ground := Go.Ground.data }, { on := 18, ground := Go.Ground.data }], guard := none }) rfl (by kernel_rfl) rfl ?_
            refine wp_by_run (w' := w6) (v := .bool false) (by go_simp) ⟨fun h => absurd rfl h, ?_⟩
            simp only [Act.put, List.setIfInBounds_toArray, List.set_cons_zero, List.set_cons_succ]
            refine doneL (by kernel_rfl) (Calm.normal ?_) _
            have HT := Lib.hid (HI.out.app HLL.out.2.2.2.2.1 HM.out.2 HS6.out HJ5.out.1 HB6.out)
            clear HS6 HB6 HJ5 HAP HRR HW HR6 q16
            obtain ⟨J5, hJ5⟩ : ∃ J5, J5 = ({ J1 with wait := J1.wait ++ [L] } : Jv) := ⟨_, rfl⟩
            rw [← hJ5] at HT
            clear hJ5
            obtain ⟨f7, hf7⟩ : ∃ f7, f % 7 = f7 := ⟨_, rfl⟩
            obtain ⟨k7, hk7⟩ : ∃ k7, k % 7 = k7 := ⟨_, rfl⟩
            have hff := HL.out.2.2.1
            have HTF := Lib.hid (And.intro (tmod_7 f f7 hf7) (And.intro (tmod_7 k k7 hk7) (And.intro (wrap_nat (k := f) (by omega)) (And.intro (wrap_nat (k := f7) (by omega)) (wrap_nat (k := k7) (by omega))))))
            clear hff
            by_cases h77 : f7 = k7
            · have ix : ((f7 : Int) == (k7 : Int)) = true := by rw [h77]; simp
              clear h77 hf7 hk7
              obtain ⟨nw, hnw⟩ : ∃ nw, J5.wait.length = nw := ⟨_, rfl⟩
              have HNW := Lib.hid hnw
              clear hnw
              have tf := HTF.out.1
              have tk := HTF.out.2.1
              have wf := HTF.out.2.2.1
              have wf7 := HTF.out.2.2.2.1
              have wk7 := HTF.out.2.2.2.2
              go_wp2_with (first
                | (go_at_call 12; (with_reducible refine (HT.out.waits HNW.out).mono ?_); rintro e w7 ⟨a7, c7, rfl, _, h7⟩; have HT7 := Lib.hid h7; clear h7 HT)
                | (go_at_call 12; (with_reducible refine (HT7.out.waits HNW.out).mono ?_); rintro e w8 ⟨a8, c8, rfl, hb8, h8⟩; have HT8 := Lib.hid h8; have HB8 := Lib.hid hb8; clear h8 hb8 HT7)
                | fail)
              clear tf tk wf wf7 wk7 ix
              obtain ⟨wo, hwo⟩ : ∃ wo, wo = wr := ⟨_, rfl⟩
              subst hwo
              go_loopw [13, 93] (fun s i wr => ∃ (q : Nat), q ≤ nw ∧ i = .int .i64 (q : Int) ∧ s = .int .i64 ((sizeN (J5.wait.take q) : Nat) : Int) ∧ wr = w8) (fun _ i _ => (nw - intOf i).toNat)
              case atStart => exact ⟨0, Nat.zero_le _, rfl, rfl, rfl⟩
              case round =>
                obtain ⟨q, hq, rfl, rfl, hw8⟩ := hrel
                rw [hw8]
                clear hw8
                by_cases hqn : q < nw
                · have i5 : (q : Int) < nw := by omega
                  have iq0 : (0 : Int) ≤ (q : Int) := by omega
                  have hqw : q < J5.wait.length := by rw [HNW.out]; exact hqn
                  obtain ⟨b8, o8, a9, c9, rfl, hb9, h90, h91, h92⟩ := HB8.out.at q hqw
                  have hts := take_sum J5.wait q hqw
                  have hsz := HT8.out.size
                  have hk30 := HL.out.2.2.2
                  have hle : sizeN (J5.wait.take (q + 1)) ≤ sizeN J5.wait := by
                    have := sizeN_app (J5.wait.take (q + 1)) (J5.wait.drop (q + 1))
                    rw [List.take_append_drop] at this
                    omega
                  have hnw8 : nw ≤ 100000 := by have := sizeN_len J5.wait; have := HNW.out; have := HLL.out.2.2.2.2.2; omega
                  have hkl := HLL.out.2.2.2.2.2
                  obtain ⟨m9, hm9⟩ : ∃ m9, (J5.wait.getD q []).length = m9 := ⟨_, rfl⟩
                  obtain ⟨s9, hs9⟩ : ∃ s9, sizeN (J5.wait.take q) = s9 := ⟨_, rfl⟩
                  obtain ⟨t9, ht9⟩ : ∃ t9, sizeN (J5.wait.take (q + 1)) = t9 := ⟨_, rfl⟩
                  rw [hm9] at h90 hts
                  rw [hs9] at hts
                  rw [ht9] at hts hle
                  rw [hs9]
                  have HQ := Lib.hid (And.intro hqn ht9)
                  have HWS := Lib.hid (show wrap64 ((s9 : Int) + 6) = ((s9 + 6 : Nat) : Int) ∧ wrap64 (((s9 + 6 : Nat) : Int) + (m9 : Int)) = (t9 : Int) ∧ wrap64 ((q : Int) + 1) = ((q + 1 : Nat) : Int) from ⟨by rw [show (s9 : Int) + 6 = ((s9 + 6 : Nat) : Int) by omega]; exact wrap_nat (by omega), by rw [show ((s9 + 6 : Nat) : Int) + (m9 : Int) = ((t9 : Nat) : Int) by omega]; exact wrap_nat (by omega), wrap_succ (by omega)⟩)
                  obtain ⟨s6, hs6⟩ : ∃ s6, s9 + 6 = s6 := ⟨_, rfl⟩
                  rw [hs6] at HWS
                  clear hts hsz hk30 hle hnw8 hkl hm9 hs9 ht9 hs6 hb9 h91 h92 hqn hqw
                  have ws1 := HWS.out.1
                  have ws2 := HWS.out.2.1
                  have wq1 := HWS.out.2.2
                  go_wp2_with fail
                  go_roundw
                  case rel => exact ⟨q + 1, HQ.out.1, by first | rfl | rw [wq1], by rw [HQ.out.2]; first | done | rfl | rw [ws2], by first | rfl | trivial⟩
                  case measure => first | exact meas_succ HQ.out.1 wq1 | exact meas_next HQ.out.1
                · have i5 : ¬ (q : Int) < nw := by omega
                  have hqq : q = nw := by omega
                  have hall : J5.wait.take q = J5.wait := List.take_of_length_le (by rw [HNW.out]; omega)
                  rw [hall]
                  obtain ⟨S5, hS5⟩ : ∃ S5, sizeN J5.wait = S5 := ⟨_, rfl⟩
                  obtain ⟨r5, hr5⟩ : ∃ r5, roomN J5 = r5 := ⟨_, rfl⟩
                  obtain ⟨r6, hr6⟩ : ∃ r6, r5 + S5 = r6 := ⟨_, rfl⟩
                  have hrf : roomN J5.forget = r6 := by rw [room_forget HT8.out.st.jat.ok, hr5, hS5]; exact hr6
                  have hlim : r6 ≤ 1000000 := by rw [← hrf]; unfold roomN; show (J5.len - 2) * 128 - _ - _ ≤ _; rw [HT8.out.len]; omega
                  have HWR := Lib.hid (show wrap64 ((r5 : Int) + (S5 : Int)) = (r6 : Int) by rw [show (r5 : Int) + (S5 : Int) = (r6 : Int) by omega]; exact wrap_nat (by omega))
                  obtain ⟨J6, hJ6⟩ : ∃ J6, J6 = J5.forget := ⟨_, rfl⟩
                  rw [← hJ6] at hrf
                  have HJ6 := Lib.hid hJ6
                  have HRF := Lib.hid (And.intro hr5 hrf)
                  have HS8 := Lib.hid (show sizeN J6.recs + sizeN J6.wait ≤ 1006 * (k + 1) from by have := HT8.out.size; rw [hJ6]; show sizeN J5.recs + 0 ≤ _; omega)
                  rw [hS5]
                  clear hJ6 hqn hqq hall hS5 hr5 hr6 hrf hlim
                  obtain ⟨k4, hk4⟩ : ∃ k4, k % 4 = k4 := ⟨_, rfl⟩
                  have HK4 := Lib.hid (And.intro (tmod_4 k k4 hk4) (wrap_nat (k := k4) (by omega)))
                  by_cases h43 : k4 = 3
                  · have iz : ((k4 : Int) == 3) = true := by rw [h43]; rfl
                    obtain ⟨rb, hrb⟩ : ∃ rb, roomN J6 = rb := ⟨_, rfl⟩
                    obtain ⟨nb, hnb⟩ : ∃ nb, J6.wait.length = nb := ⟨_, rfl⟩
                    obtain ⟨lb, hlb⟩ : ∃ lb, J6.recs.length = lb := ⟨_, rfl⟩
                    obtain ⟨tb, htb⟩ : ∃ tb, lb + nb = tb := ⟨_, rfl⟩
                    have hsz := HS8.out
                    have l1 := sizeN_len J6.recs
                    have l2 := sizeN_len J6.wait
                    have hk30 := HL.out.2.2.2
                    have HWT := Lib.hid (show wrap64 ((lb : Int) + (nb : Int)) = (tb : Int) by rw [show (lb : Int) + (nb : Int) = (tb : Int) by omega]; exact wrap_nat (by omega))
                    have HLE := Lib.hid (show J6.comN.recs.length = tb by rw [(room_com J6).2.1, hlb, hnb]; exact htb)
                    have HRB := Lib.hid (And.intro hrb (And.intro hnb (And.intro hlb htb)))
                    have HK30 := Lib.hid (show k ≤ 100 ∧ k + 1 ≤ 31 by have := HLL.out.2.2.2.2.2; omega)
                    clear hrb hnb hlb htb hsz l1 l2 hk30 h43 hk4
                    have tm4 := HK4.out.1
                    have wm4 := HK4.out.2
                    have wr6 := HWR.out
                    go_wp2_with (first
                    | (go_at_call 20; (with_reducible refine (HT8.out.room HRF.out.1).mono ?_); rintro e w9 ⟨rfl, h9⟩; have HT9 := Lib.hid h9; clear h9)
                    | (go_at_call 21; (with_reducible refine (HT9.out.forget HNW.out).mono ?_); rintro e w10 ⟨rfl, j6, h10⟩; (rw [← HJ6.out] at h10); have HT10 := Lib.hid h10; clear h10)
                    | (go_at_call 20; (with_reducible refine (HT10.out.room HRF.out.2).mono ?_); rintro e w11 ⟨rfl, h11⟩; have HF := Lib.hid h11; clear h11)
                      | fail)
                    clear wr6 i5 hq tm4 wm4 i2 i3 iy in0 i1
                    refine (HF.out.room HRB.out.1).mono ?_
                    rintro e wb1 ⟨rfl, hb1⟩
                    have HY1 := Lib.hid hb1
                    clear hb1
                    have wtb := HWT.out
                    have wk := HWK.out
                    go_wp2_with (first
                      | (go_at_call 22; (with_reducible refine (HY1.out.lens HRB.out.2.2.1).mono ?_); rintro e wb2 ⟨rfl, rfl⟩)
                      | (go_at_call 12; (with_reducible refine (HY1.out.waits HRB.out.2.1).mono ?_); rintro e wb3 ⟨a8, c8, rfl, _, hb3⟩; have HY3 := Lib.hid hb3; clear hb3)
                      | (go_at_call 10; (with_reducible refine (HY3.out.commit HK30.out.1 HK30.out.2).mono ?_); rintro e wb4 ⟨rfl, pb, jb, db, hb4⟩; have HY4 := Lib.hid hb4; clear hb4)
                      | (go_at_call 20; (with_reducible refine (HY4.out.room ((room_com J6).1.trans HRB.out.1)).mono ?_); rintro e wb5 ⟨rfl, hb5⟩; have HY5 := Lib.hid hb5; clear hb5)
                      | (go_at_call 22; (with_reducible refine (HY5.out.lens HLE.out).mono ?_); rintro e wb6 ⟨rfl, rfl⟩)
                      | fail)
                    go_roundw
                    case rel => exact ⟨k + 1, pb, jb, db, _, HLL.out.2.2.2.2.2, by first | rfl | rw [wk], HY5.out⟩
                    case measure => first | exact meas_succ HLL.out.2.2.2.2.2 wk | exact meas_next HLL.out.2.2.2.2.2
                  · have iz : ((k4 : Int) == 3) = false := by simp; omega
                    clear h43 hk4
                    have tm4 := HK4.out.1
                    have wm4 := HK4.out.2
                    have wk := HWK.out
                    have wr6 := HWR.out
                    go_wp2_with (first
                    | (go_at_call 20; (with_reducible refine (HT8.out.room HRF.out.1).mono ?_); rintro e w9 ⟨rfl, h9⟩; have HT9 := Lib.hid h9; clear h9)
                    | (go_at_call 21; (with_reducible refine (HT9.out.forget HNW.out).mono ?_); rintro e w10 ⟨rfl, j6, h10⟩; (rw [← HJ6.out] at h10); have HT10 := Lib.hid h10; clear h10)
                    | (go_at_call 20; (with_reducible refine (HT10.out.room HRF.out.2).mono ?_); rintro e w11 ⟨rfl, h11⟩; have HF := Lib.hid h11; clear h11)
                      | fail)
                    go_roundw
                    case rel => exact ⟨k + 1, _, _, _, _, HLL.out.2.2.2.2.2, by first | rfl | rw [wk], HF.out.up (Nat.le_succ _)⟩
                    case measure => first | exact meas_succ HLL.out.2.2.2.2.2 wk | exact meas_next HLL.out.2.2.2.2.2
            · have ix : ((f7 : Int) == (k7 : Int)) = false := by simp; omega
              clear h77 hf7 hk7
              obtain ⟨k4, hk4⟩ : ∃ k4, k % 4 = k4 := ⟨_, rfl⟩
              have HK4 := Lib.hid (And.intro (tmod_4 k k4 hk4) (wrap_nat (k := k4) (by omega)))
              by_cases h43 : k4 = 3
              · have iz : ((k4 : Int) == 3) = true := by rw [h43]; rfl
                obtain ⟨rb, hrb⟩ : ∃ rb, roomN J5 = rb := ⟨_, rfl⟩
                obtain ⟨nb, hnb⟩ : ∃ nb, J5.wait.length = nb := ⟨_, rfl⟩
                obtain ⟨lb, hlb⟩ : ∃ lb, J5.recs.length = lb := ⟨_, rfl⟩
                obtain ⟨tb, htb⟩ : ∃ tb, lb + nb = tb := ⟨_, rfl⟩
                have hsz := HT.out.size
                have l1 := sizeN_len J5.recs
                have l2 := sizeN_len J5.wait
                have hk30 := HL.out.2.2.2
                have HWT := Lib.hid (show wrap64 ((lb : Int) + (nb : Int)) = (tb : Int) by rw [show (lb : Int) + (nb : Int) = (tb : Int) by omega]; exact wrap_nat (by omega))
                have HLE := Lib.hid (show J5.comN.recs.length = tb by rw [(room_com J5).2.1, hlb, hnb]; exact htb)
                have HRB := Lib.hid (And.intro hrb (And.intro hnb (And.intro hlb htb)))
                have HK30 := Lib.hid (show k ≤ 100 ∧ k + 1 ≤ 31 by have := HLL.out.2.2.2.2.2; omega)
                clear hrb hnb hlb htb hsz l1 l2 hk30 h43 hk4
                have tm4 := HK4.out.1
                have wm4 := HK4.out.2
                have wtb := HWT.out
                have wk := HWK.out
                have tf := HTF.out.1
                have tk := HTF.out.2.1
                have wf := HTF.out.2.2.1
                have wf7 := HTF.out.2.2.2.1
                have wk7 := HTF.out.2.2.2.2
                go_wp2_with (first
                  | (go_at_call 20; (with_reducible refine (HT.out.room HRB.out.1).mono ?_); rintro e wb1 ⟨rfl, hb1⟩; have HY1 := Lib.hid hb1; clear hb1)
                  | (go_at_call 22; (with_reducible refine (HY1.out.lens HRB.out.2.2.1).mono ?_); rintro e wb2 ⟨rfl, rfl⟩)
                  | (go_at_call 12; (with_reducible refine (HY1.out.waits HRB.out.2.1).mono ?_); rintro e wb3 ⟨a8, c8, rfl, _, hb3⟩; have HY3 := Lib.hid hb3; clear hb3)
                  | (go_at_call 10; (with_reducible refine (HY3.out.commit HK30.out.1 HK30.out.2).mono ?_); rintro e wb4 ⟨rfl, pb, jb, db, hb4⟩; have HY4 := Lib.hid hb4; clear hb4)
                  | (go_at_call 20; (with_reducible refine (HY4.out.room ((room_com J5).1.trans HRB.out.1)).mono ?_); rintro e wb5 ⟨rfl, hb5⟩; have HY5 := Lib.hid hb5; clear hb5)
                  | (go_at_call 22; (with_reducible refine (HY5.out.lens HLE.out).mono ?_); rintro e wb6 ⟨rfl, rfl⟩)
                  | fail)
                go_roundw
                case rel => exact ⟨k + 1, pb, jb, db, _, HLL.out.2.2.2.2.2, by first | rfl | rw [wk], HY5.out⟩
                case measure => first | exact meas_succ HLL.out.2.2.2.2.2 wk | exact meas_next HLL.out.2.2.2.2.2
              · have iz : ((k4 : Int) == 3) = false := by simp; omega
                clear h43 hk4
                have tm4 := HK4.out.1
                have wm4 := HK4.out.2
                have wk := HWK.out
                have tf := HTF.out.1
                have tk := HTF.out.2.1
                have wf := HTF.out.2.2.1
                have wf7 := HTF.out.2.2.2.1
                have wk7 := HTF.out.2.2.2.2
                go_wp2_with (first
                  | fail)
                go_roundw
                case rel => exact ⟨k + 1, _, _, _, _, HLL.out.2.2.2.2.2, by first | rfl | rw [wk], HT.out.up (Nat.le_succ _)⟩
                case measure => first | exact meas_succ HLL.out.2.2.2.2.2 wk | exact meas_next HLL.out.2.2.2.2.2
      · have i2 : ¬ (k : Int) < n0 := by omega
        clear hlt
        go_wp2_with fail
        go_ret
        exact ⟨rfl, hI.bel⟩

end Go.Proofs.Ytpcbolmidnoaiaa

/- JournalRoom, as the law's text takes it. -/
set_option linter.unusedVariables false
set_option linter.unusedSimpArgs false
namespace Go.Proofs.Ytpcbolmidnoaiaa
open Go.RowKit Go.Shelf
theorem roomW (a0 : Option Addr) (c0 : Nat) (l0 : List (List Int)) (a1 : Int) (w : World) (w0 : l0.length ≤ c0 ∧ BssAt w.heap.size w a0 l0) (w1 : (Lit.int .u8 a1).wf = true) :
    Calls Try.prog 5 #[.slice a0 l0.length c0, .int .u8 a1] w fun e w' => e = .returned (.bool true) ∧ Below w.heap.size w w' := by
  have h1 : 0 ≤ a1 ∧ a1 < 256 := by
    simp [Lit.wf, IntKind.min, IntKind.max, IntKind.bits, IntKind.signed] at w1
    omega
  obtain ⟨f, rfl⟩ : ∃ f : Nat, a1 = (f : Int) := ⟨a1.toNat, by omega⟩
  exact room_w a0 l0.length c0 l0 f w w0.2 rfl w0.1 (by omega)
end Go.Proofs.Ytpcbolmidnoaiaa

