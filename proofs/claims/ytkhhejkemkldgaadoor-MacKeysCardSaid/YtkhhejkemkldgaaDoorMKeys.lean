/- The walk of the statement MacKeys. -/
import Derived.Test.YtkhhejkemkldgaaDoorMAlive
import Derived.Test.YtkhhejkemkldgaaDoorSEq
set_option linter.unusedVariables false
set_option linter.unusedSimpArgs false
namespace Go.Proofs.YtkhhejkemkldgaaDoor
open Go.RowKit Go.Shelf
theorem take_snoc (L : List Int) (k : Nat) (h : k < L.length) : L.take k ++ [L.getD k 0] = L.take (k + 1) := by
  rw [List.take_add_one]; simp [List.getD, h]
theorem zeros_snoc (L : List Int) (k : Nat) : (L ++ List.replicate k 0) ++ [0] = L ++ List.replicate (k + 1) 0 := by
  rw [List.append_assoc, ← List.replicate_succ']
set_option maxRecDepth 100000 in
set_option maxHeartbeats 2000000 in
theorem keys_long (A : Option Addr) (ks : List Int) (c : Nat) (more : Int) (B : Option Addr) (xs : List Int) (d : Nat) (hc : ks.length ≤ c) (hl : 64 < ks.length) (hr : ks.length ≤ 300) (hd : xs.length ≤ d) (hx : xs.length ≤ 500) (w : World) (hT : Tabs w)
    (ha : Bys8 w.heap.size w (.slice A ks.length c) ks) (hb : Bys8 w.heap.size w (.slice B xs.length d) xs) :
    Calls Tryd.prog 7 #[.slice A ks.length c, .int .u8 more, .slice B xs.length d] w fun e w' => e = .returned (.bool true) ∧ Below w.heap.size w w' := by
  have hzh := (zero_of_info zero_hash).1
  have hlt := hT.lt
  have HT := Lib.hid hT
  have HA := Lib.hid ha
  have HB := Lib.hid hb
  clear hT ha hb
  go_enter Tryd.func7, Tryd.ntmps7
  go_wp2_with fail
  refine (alive_any w HT.out).mono ?_
  rintro e w1 ⟨rfl, hB1⟩
  have T1 := Lib.hid (HT.out.below hlt hB1)
  have HU := Lib.hid (of_any A ks c (by omega) hc w1 T1.out ((HA.out.below hB1).mono hB1.size))
  have D1 := Lib.hid hB1
  have hs1 := hB1.size
  have hl1 : ¬ ((300 : Int) < ks.length) := by omega
  have hl2 : ¬ ((500 : Int) < xs.length) := by omega
  have hl3 : (64 : Int) < ks.length := by omega
  clear hB1
  go_wp2_with fail
  refine HU.out.mono ?_
  rintro e w2 ⟨rfl, hB2⟩
  have hs2 := hB2.size
  have H2 := Lib.hid (At.new 38 w2 (nums .u8 32 fun _ => 0))
  have B3 : Below w1.heap.size w1 ((w2.alloc (.cells (nums .u8 32 fun _ => 0) 38)).setRow w2.heap.size (nums .u8 32 (bf (sha ks)))) := below_row (hB2.alloc hs2 _) hs2 _
  have D3 := Lib.hid (D1.out.trans (B3.mono hs1))
  have T3 := Lib.hid (T1.out.below (by omega) B3)
  have H3 := Lib.hid (show At 38 ((w2.alloc (.cells (nums .u8 32 fun _ => 0) 38)).setRow w2.heap.size (nums .u8 32 (bf (sha ks)))) w2.heap.size (nums .u8 32 (bf (sha ks))) from H2.out.row)
  have hz3 : ((w2.alloc (.cells (nums .u8 32 fun _ => 0) 38)).setRow w2.heap.size (nums .u8 32 (bf (sha ks)))).heap.size = w2.heap.size + 1 := by rw [size_setRow]; simp
  clear hB2 B3 HU T1 D1
  go_wp2_with (refine store_hash H2.out rfl rfl rfl rfl ?_)
  generalize ((w2.alloc (.cells (nums .u8 32 fun _ => 0) 38)).setRow w2.heap.size (nums .u8 32 (bf (sha ks)))) = w3 at *
  have hG3 : w2.heap.size < w3.heap.size := by omega
  obtain ⟨G, hG⟩ : ∃ G, w2.heap.size = G := ⟨_, rfl⟩
  rw [hG] at H3 hG3 ⊢
  clear hz3 hG H2
  obtain ⟨hs, hhs⟩ : ∃ hs, sha ks = hs := ⟨_, rfl⟩
  have hhl : hs.length = 32 := by rw [← hhs]; exact sha_length _
  have hhb : Bytes hs := by rw [← hhs]; exact sha_bytes _
  have HTG := Lib.hid (tag_long hl xs)
  rw [hhs] at H3 HTG ⊢
  have HHB := Lib.hid hhb
  have hhl2 := Lib.hid hhl
  clear hhs hhl hhb
  go_loopw [9, 10] (fun v iv wr => ∃ (k : Nat) (a : Option Addr) (c : Nat), k ≤ 32 ∧ iv = .int .i64 k ∧ v = .slice a k c ∧ Own8 w3.heap.size wr (.slice a k c) (hs.take k) ∧ Below w3.heap.size w3 wr) (fun _ iv _ => 32 - (intOf iv).toNat)
  case atStart => exact ⟨0, none, 0, by omega, rfl, rfl, by rw [List.take_zero]; exact Own8.nil _ _, Below.refl _ _⟩
  case round =>
    obtain ⟨k, a, cc, hk, rfl, rfl, hO, hBr⟩ := hrel
    have HR := Lib.hid hBr
    by_cases hlt : k < 32
    · have hki : (k : Int) < 32 := by omega
      have hcell := (H3.out.below (by omega) hBr).num k hlt
      have hxb := HHB.out.get k
      have hal : Below wr.heap.size wr (wr.alloc (.cells #[.int .u8 (bf hs k)] 5)) := (Below.refl _ wr).alloc (Nat.le_refl _) _
      have hOa := hO.below hal (Nat.le_refl _)
      have hb1 := bys8_alloc (T := 5) wr [bf hs k] (by intro x hx; simp at hx; subst hx; exact hxb) #[.int .u8 (bf hs k)] rfl 1 1 rfl (0, 0)
      have hs1' : w3.heap.size ≤ (wr.alloc (.cells #[.int .u8 (bf hs k)] 5)).heap.size := by have := HR.out.size; simp; omega
      have HAL := Lib.hid hal
      have hml : (hs.take k).length + 1 ≤ 10000000000000 := by rw [List.length_take]; omega
      have hlk : (hs.take k ++ [bf hs k]).length = k + 1 := by rw [List.length_append, List.length_take, hhl2.out]; simp; omega
      have hsn := take_snoc hs k (by rw [hhl2.out]; exact hlt)
      clear hBr hO hal hxb
      go_wp2_with (first
        | (at_builtin; refine wpList_bapp8 rfl (.tmp 36) (.tmp 40) rfl w3.heap.size _ (hs.take k) rfl hOa _ (some ⟨wr.heap.size, 0, none⟩) 1 1 [bf hs k] rfl hb1 hml hs1' ?_; intro a3 c3 w4 hO3 hB4; rw [hlk] at hO3 ⊢)
        | fail)
      change Own8 _ _ _ (hs.take k ++ [hs.getD k 0]) at hO3
      rw [hsn] at hO3
      have O3 := Lib.hid hO3
      have D4 := Lib.hid (HR.out.trans ((HAL.out.mono HR.out.size).trans hB4))
      clear hO3 hB4 hOa hb1 hs1' hml hcell hsn
      go_wp2
      exact ⟨⟨k + 1, a3, c3, by omega, by go_num, by simp, O3.out, D4.out⟩, by simp [intOf]; omega⟩
    · obtain rfl : k = 32 := by omega
      rw [List.take_of_length_le (by rw [hhl2.out]; exact Nat.le_refl _)] at hO
      have hcp := hO.cap
      have hob := hO.bys
      have D4 := Lib.hid (D3.out.trans (hBr.mono D3.out.size))
      have T4 := Lib.hid (T3.out.below T3.out.lt hBr)
      have hs4 : w.heap.size ≤ wr.heap.size := D4.out.size
      have HU := Lib.hid (mof_any A ks c B xs d hc (by omega) hd (by omega) wr T4.out ((HA.out.below D4.out).mono hs4) ((HB.out.below D4.out).mono hs4))
      have HOB := Lib.hid hob
      obtain ⟨T, hTT⟩ : ∃ T, tag ks xs = T := ⟨_, rfl⟩
      rw [hTT] at HU HTG
      clear hTT
      have he := eq_hash (bf T)
      clear hO hBr hob HR
      go_wp2_with fail
      refine HU.out.mono ?_
      rintro e w5 ⟨rfl, hB5⟩
      have hs5 := hB5.size
      have D5 := Lib.hid (D4.out.trans (hB5.mono hs4))
      have hm := mof_any a hs cc B xs d (by rw [hhl2.out]; exact hcp) (by rw [hhl2.out]; omega) hd (by omega) w5 (T4.out.below T4.out.lt hB5) (by rw [hhl2.out]; exact (HOB.out.below hB5).mono hs5) ((HB.out.below D5.out).mono D5.out.size)
      rw [hhl2.out, HTG.out] at hm
      have HM := Lib.hid hm
      clear hB5 hm HU D4 T4 HOB
      go_wp2_with fail
      refine HM.out.mono ?_
      rintro e w6 ⟨rfl, hB6⟩
      have D6 := Lib.hid (D5.out.trans (hB6.mono D5.out.size))
      clear hB6 HM
      go_wp2
      go_ret
      exact ⟨by simp, D6.out⟩
set_option maxRecDepth 100000 in
set_option maxHeartbeats 2000000 in
theorem keys_short (A : Option Addr) (ks : List Int) (c : Nat) (more : Int) (hm0 : 0 ≤ more) (hm1 : more < 256) (B : Option Addr) (xs : List Int) (d : Nat) (hc : ks.length ≤ c) (hl : ks.length ≤ 64) (hd : xs.length ≤ d) (hx : xs.length ≤ 500) (w : World) (hT : Tabs w)
    (ha : Bys8 w.heap.size w (.slice A ks.length c) ks) (hb : Bys8 w.heap.size w (.slice B xs.length d) xs) :
    Calls Tryd.prog 7 #[.slice A ks.length c, .int .u8 more, .slice B xs.length d] w fun e w' => e = .returned (.bool true) ∧ Below w.heap.size w w' := by
  have hlt := hT.lt
  have HT := Lib.hid hT
  have HA := Lib.hid ha
  have HB := Lib.hid hb
  clear hT ha hb
  go_enter Tryd.func7, Tryd.ntmps7
  go_wp2_with fail
  refine (alive_any w HT.out).mono ?_
  rintro e w1 ⟨rfl, hB1⟩
  have T1 := Lib.hid (HT.out.below hlt hB1)
  have D1 := Lib.hid hB1
  have hs1 := hB1.size
  have hl1 : ¬ ((300 : Int) < ks.length) := by omega
  have hl2 : ¬ ((500 : Int) < xs.length) := by omega
  have hl3 : ¬ ((64 : Int) < ks.length) := by omega
  have ha' : Bys8 w.heap.size (w1.alloc (.cells #[] 5)) (.slice A ks.length c) ks := HA.out.below (D1.out.alloc hs1 _)
  clear hB1
  go_wp2_with (first
    | (at_builtin; refine wpList_bapp8 rfl (.tmp 52) (.tmp 53) rfl w1.heap.size (.slice (some ⟨w1.heap.size, 0, none⟩) 0 0) [] rfl (Own8.empty w1) w.heap.size A ks.length c ks rfl ha' (by simp; omega) (by simp) ?_; intro a1 c1 w2 hO1 hB2; rw [List.nil_append] at hO1 ⊢)
    | fail)
  have D2 : Below w1.heap.size w1 w2 := ((Below.refl _ w1).alloc (Nat.le_refl _) (.cells #[] 5)).trans hB2
  have O1 := Lib.hid hO1
  have HD2 := Lib.hid D2
  clear hO1 hB2 D2 ha'
  go_loopw [11, 12] (fun v iv wr => ∃ (k : Nat) (a : Option Addr) (c : Nat), ks.length + k ≤ 64 ∧ (k : Int) ≤ more ∧ iv = .int .i64 k ∧ v = .slice a (ks.length + k) c ∧ Own8 w1.heap.size wr (.slice a (ks.length + k) c) (ks ++ List.replicate k 0) ∧ Below w1.heap.size w1 wr) (fun _ iv _ => 300 - (intOf iv).toNat)
  case atStart => exact ⟨0, a1, c1, by omega, by omega, rfl, rfl, by simpa using O1.out, HD2.out⟩
  case round =>
    clear O1 HD2
    obtain ⟨k, a, cc, hk, hkm, rfl, rfl, hO, hBr⟩ := hrel
    have HR := Lib.hid hBr
    have hlk : ∀ k, (ks ++ List.replicate k (0 : Int)).length = ks.length + k := fun k => by simp
    by_cases hlt2 : (k : Int) < more ∧ ks.length + k < 64
    · obtain ⟨h1, h2⟩ := hlt2
      have h2i : (ks.length : Int) + k < 64 := by omega
      have hal : Below wr.heap.size wr (wr.alloc (.cells #[.int .u8 0] 5)) := (Below.refl _ wr).alloc (Nat.le_refl _) _
      have hOa := hO.below hal (Nat.le_refl _)
      have hb1 := bys8_alloc (T := 5) wr [0] (by simp) #[.int .u8 0] rfl 1 1 rfl (0, 0)
      have hs1' : w1.heap.size ≤ (wr.alloc (.cells #[.int .u8 0] 5)).heap.size := by have := HR.out.size; simp; omega
      have HAL := Lib.hid hal
      have hml : (ks ++ List.replicate k (0 : Int)).length + 1 ≤ 10000000000000 := by rw [hlk]; omega
      have hsn := zeros_snoc ks k
      clear hBr hO hal
      go_wp2_with (first
        | (at_builtin; refine wpList_bapp8 rfl (.tmp 66) (.tmp 67) rfl w1.heap.size _ (ks ++ List.replicate k 0) rfl hOa _ (some ⟨wr.heap.size, 0, none⟩) 1 1 [0] rfl hb1 hml hs1' ?_; intro a3 c3 w4 hO3 hB4; rw [hsn, hlk] at hO3; rw [hsn, hlk])
        | fail)
      have O3 := Lib.hid hO3
      have D4 := Lib.hid (HR.out.trans ((HAL.out.mono HR.out.size).trans hB4))
      clear hO3 hB4 hOa hb1 hs1' hml hsn
      go_wp2
      exact ⟨⟨k + 1, a3, c3, by omega, by omega, by go_num, rfl, O3.out, D4.out⟩, by simp [intOf]; omega⟩
    · have hcp := hO.cap
      have hob := hO.bys
      have D4 := Lib.hid (D1.out.trans (hBr.mono hs1))
      have T4 := Lib.hid (T1.out.below T1.out.lt hBr)
      have hs4 : w.heap.size ≤ wr.heap.size := D4.out.size
      have HU := Lib.hid (mof_any A ks c B xs d hc (by omega) hd (by omega) wr T4.out ((HA.out.below D4.out).mono hs4) ((HB.out.below D4.out).mono hs4))
      have HOB := Lib.hid hob
      have HTG := Lib.hid (tag_zeros k hk xs)
      obtain ⟨T, hTT⟩ : ∃ T, tag ks xs = T := ⟨_, rfl⟩
      rw [hTT] at HU HTG
      clear hTT
      have he := eq_hash (bf T)
      clear hO hBr hob HR
      by_cases h1 : (k : Int) < more
      · have h2 : ks.length + k = 64 := by omega
        have h2i : ¬ ((ks.length : Int) + k < 64) := by omega
        clear hlt2 h2
        go_wp2_with fail
        refine HU.out.mono ?_
        rintro e w5 ⟨rfl, hB5⟩
        have hs5 := hB5.size
        have D5 := Lib.hid (D4.out.trans (hB5.mono hs4))
        have hm := mof_any a (ks ++ List.replicate k 0) cc B xs d (by rw [hlk]; exact hcp) (by rw [hlk]; omega) hd (by omega) w5 (T4.out.below T4.out.lt hB5) (by rw [hlk]; exact (HOB.out.below hB5).mono hs5) ((HB.out.below D5.out).mono D5.out.size)
        rw [hlk, HTG.out] at hm
        have HM := Lib.hid hm
        clear hB5 hm HU D4 T4 HOB
        go_wp2_with fail
        refine HM.out.mono ?_
        rintro e w6 ⟨rfl, hB6⟩
        have D6 := Lib.hid (D5.out.trans (hB6.mono D5.out.size))
        clear hB6 HM
        go_wp2
        go_ret
        exact ⟨by simp, D6.out⟩
      · clear hlt2
        go_wp2_with fail
        refine HU.out.mono ?_
        rintro e w5 ⟨rfl, hB5⟩
        have hs5 := hB5.size
        have D5 := Lib.hid (D4.out.trans (hB5.mono hs4))
        have hm := mof_any a (ks ++ List.replicate k 0) cc B xs d (by rw [hlk]; exact hcp) (by rw [hlk]; omega) hd (by omega) w5 (T4.out.below T4.out.lt hB5) (by rw [hlk]; exact (HOB.out.below hB5).mono hs5) ((HB.out.below D5.out).mono D5.out.size)
        rw [hlk, HTG.out] at hm
        have HM := Lib.hid hm
        clear hB5 hm HU D4 T4 HOB
        go_wp2_with fail
        refine HM.out.mono ?_
        rintro e w6 ⟨rfl, hB6⟩
        have D6 := Lib.hid (D5.out.trans (hB6.mono D5.out.size))
        clear hB6 HM
        go_wp2
        go_ret
        exact ⟨by simp, D6.out⟩
/-- Of a key that is too long, or bytes that are, nothing is asked. -/
theorem keys_far (A : Option Addr) (la c : Nat) (more : Int) (B : Option Addr) (lb d : Nat) (w : World) (hT : Tabs w) (h : ¬ (la ≤ 300 ∧ lb ≤ 500)) :
    Calls Tryd.prog 7 #[.slice A la c, .int .u8 more, .slice B lb d] w fun e w' => e = .returned (.bool true) ∧ Below w.heap.size w w' := by
  have hal := alive_any w hT
  clear hT
  by_cases h1 : 300 < la
  · clear h
    go_enter Tryd.func7, Tryd.ntmps7
    go_wp2_with fail
    refine hal.mono ?_
    rintro e w1 ⟨rfl, hB1⟩
    go_wp2
    go_ret
    exact ⟨rfl, hB1⟩
  · have h1' : la ≤ 300 := by omega
    have h2 : 500 < lb := by omega
    clear h h1
    go_enter Tryd.func7, Tryd.ntmps7
    go_wp2_with fail
    refine hal.mono ?_
    rintro e w1 ⟨rfl, hB1⟩
    go_wp2
    go_ret
    exact ⟨rfl, hB1⟩
theorem keys_any (a : Option Addr) (la ca : Nat) (za : List Int) (more : Int) (hm0 : 0 ≤ more) (hm1 : more < 256) (b : Option Addr) (lb cb : Nat) (zb : List Int) (w : World) (hT : Tabs w) (ha : IsRow .u8 w a la ca za) (hb : IsRow .u8 w b lb cb zb) :
    Calls Tryd.prog 7 #[.slice a la ca, .int .u8 more, .slice b lb cb] w fun e w' => e = .returned (.bool true) ∧ Below w.heap.size w w' := by
  by_cases h : la ≤ 300 ∧ lb ≤ 500
  · obtain ⟨xs, rfl, hI⟩ := bys8_of_row ha
    obtain ⟨ys, rfl, hJ⟩ := bys8_of_row hb
    by_cases hl : xs.length ≤ 64
    · exact keys_short a xs ca more hm0 hm1 b ys cb (row_le ha) hl (row_le hb) h.2 w hT hI hJ
    · exact keys_long a xs ca more b ys cb (row_le ha) (by omega) h.1 (row_le hb) h.2 w hT hI hJ
  · exact keys_far a la ca more b lb cb w hT h
theorem keys_card (a : Option Addr) (la ca : Nat) (za : List Int) (more : Int) (b : Option Addr) (lb cb : Nat) (zb : List Int) (w : World) (hT : Tabs w) (ha : IsRow .u8 w a la ca za) (hm : (Lit.int .u8 more).wf = true) (hb : IsRow .u8 w b lb cb zb) :
    Calls Tryd.prog 7 #[.slice a la ca, .int .u8 more, .slice b lb cb] w fun e w' => e = .returned (.bool true) ∧ Below w.heap.size w w' :=
  keys_any a la ca za more (bounds_u8 hm).1 (bounds_u8 hm).2 b lb cb zb w hT ha hb
end Go.Proofs.YtkhhejkemkldgaaDoor
