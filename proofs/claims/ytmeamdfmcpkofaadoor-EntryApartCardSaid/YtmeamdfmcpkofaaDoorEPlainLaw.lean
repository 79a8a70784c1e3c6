/- EntryPlain. -/
import Derived.Test.YtmeamdfmcpkofaaDoorEAlive
import Derived.Test.YtmeamdfmcpkofaaDoorELaid
import Derived.StillTactics
import Derived.Laws.Concat
set_option linter.unusedVariables false
set_option linter.unusedSimpArgs false
namespace Go.Proofs.YtmeamdfmcpkofaaDoor
open Go.RowKit Go.Shelf
theorem setCell_rest (w : World) (a : Addr) (v : Value) : (w.setCell a v).os = w.os ∧ (w.setCell a v).tape = w.tape ∧ (w.setCell a v).output = w.output := by
  unfold World.setCell
  split <;> exact ⟨rfl, rfl, rfl⟩
theorem setCells_at {T : TypeId} {b : Nat} : ∀ (vs : List Value) (o : Nat) (w : World) (cs : Array Value), At T w b cs → ∃ cs', At T (w.setCells b o vs) b cs' ∧ cs'.size = cs.size ∧ (∀ j, j ≠ b → (w.setCells b o vs).heap[j]? = w.heap[j]?) ∧
    (w.setCells b o vs).heap.size = w.heap.size ∧ (w.setCells b o vs).os = w.os ∧ (w.setCells b o vs).tape = w.tape ∧ (w.setCells b o vs).output = w.output
  | [], o, w, cs, h => ⟨cs, h, rfl, fun _ _ => rfl, rfl, rfl, rfl, rfl⟩
  | v :: r, o, w, cs, h => by
    rw [World.setCells]
    obtain ⟨cs', a1, a2, a3, a4, a5, a6, a7⟩ := setCells_at r (o + 1) (w.setCell ⟨b, o, none⟩ v) _ (h.set o v)
    exact ⟨cs', a1, by rw [a2]; simp, fun j hj => (a3 j hj).trans (heap_setCell_other w ⟨b, o, none⟩ j v hj), a4.trans (by simp), a5.trans (setCell_rest w ⟨b, o, none⟩ v).1, a6.trans (setCell_rest w ⟨b, o, none⟩ v).2.1, a7.trans (setCell_rest w ⟨b, o, none⟩ v).2.2⟩
theorem there_hash {w : World} {g : Nat} {x : En} (h : At 27 w g (enV x)) : w.there g 10 32 := fun j hj => ⟨by rw [h.cell, enV_hash x j hj]; rfl, h.free _⟩
theorem at_hash {w : World} {g : Nat} {x : En} {h : List Int} (hA : At 27 w g (enV x)) :
    At 27 (w.setCells g 10 (nums .u8 32 (bf h)).toList) g (enV { x with hash := h }) ∧ Below g w (w.setCells g 10 (nums .u8 32 (bf h)).toList) := by
  obtain ⟨cs', a1, a2, a3, a4, a5, a6, a7⟩ := setCells_at (nums .u8 32 (bf h)).toList 10 w _ hA
  have hlen : (nums .u8 32 (bf h)).toList.length = 32 := by simp [nums]
  have hth : w.there g 10 (nums .u8 32 (bf h)).toList.length := by rw [hlen]; exact there_hash hA
  refine ⟨?_, ⟨a5, a6, a7, by omega, fun j hj => a3 j (by omega)⟩⟩
  have e : cs' = enV { x with hash := h } := by
    apply Array.ext_getElem?
    intro i
    rw [← a1.cell i]
    by_cases h1 : i < 10
    · rw [World.cell?_setCells_out g _ 10 w ⟨g, i, none⟩ (fun _ _ => .inl h1), hA.cell i]
      obtain ⟨g0, g1, g2, g3, g4, g5, g6, g7, g8, g9⟩ := enV_get x
      obtain ⟨k0, k1, k2, k3, k4, k5, k6, k7, k8, k9⟩ := enV_get { x with hash := h }
      have hc : i = 0 ∨ i = 1 ∨ i = 2 ∨ i = 3 ∨ i = 4 ∨ i = 5 ∨ i = 6 ∨ i = 7 ∨ i = 8 ∨ i = 9 := by omega
      rcases hc with rfl | rfl | rfl | rfl | rfl | rfl | rfl | rfl | rfl | rfl
      · exact g0.trans k0.symm
      · exact g1.trans k1.symm
      · exact g2.trans k2.symm
      · exact g3.trans k3.symm
      · exact g4.trans k4.symm
      · exact g5.trans k5.symm
      · exact g6.trans k6.symm
      · exact g7.trans k7.symm
      · exact g8.trans k8.symm
      · exact g9.trans k9.symm
    · by_cases h2 : i < 42
      · obtain ⟨j, rfl⟩ : ∃ j, i = 10 + j := ⟨i - 10, by omega⟩
        have hr := World.rangeAt_setCells_same w g 10 _ hth j (.int .u8 (bf h j)) (by rw [Array.getElem?_toList, nums_get _ _ _ _ (by omega)])
        rw [hr, enV_hash _ j (by omega)]
      · rw [a1.cell i, Array.getElem?_eq_none (by rw [a2, enV_size]; omega), Array.getElem?_eq_none (by rw [enV_size]; omega)]
  rw [← e]; exact a1
theorem size_arr (f : Nat → Int) : (Tryd.prog.info? 24).map (·.size) = some (nums .u8 32 f).size := by rw [nums_size]; kernel_rfl
theorem load_arr {ops : Array Oper} {rest : List Oper} {o : Oper} {a : Act} {w : World} {Q : Exit → Act → World → Prop} {x : Operand} {g : Nat} {f : Nat → Int} (hg : At 24 w g (nums .u8 32 f)) (hgd : o.guard = none) (ho : o.op = .load 24 x) (hx : a.eval x = .pointer (some ⟨g, 0, none⟩))
    (h : wpList Tryd.prog ops Q rest (a.put o.dst (.agg (nums .u8 32 f))) w) : wpList Tryd.prog ops Q (o :: rest) a w :=
  wpList_load_row hgd 24 x ho g hx _ _ _ _ hg Tryd.underlying24 rfl (size_arr f) h
theorem str_app (a b : List Int) : strOfNums (a ++ b) = strOfNums a ++ strOfNums b := by
  apply ByteArray.ext
  apply Array.ext'
  rw [strOfNums_data, ByteArray.data_append, Array.toList_append, strOfNums_data, strOfNums_data, List.map_append]
/-- The same entry with another hash. -/
theorem May.hashed {k : Nat} {x : En} (m : May k x) (h3 : 3 ≤ k) (h : List Int) : May k { x with hash := h } := ⟨m.is, m.kind, m.holds, m.rest, fun hk => by omega⟩
theorem May.one {j k : Nat} {x : En} (m : May j x) (n : May k x) : j = k := by have := m.kind.symm.trans n.kind; omega
set_option maxRecDepth 100000 in
set_option maxHeartbeats 2000000 in
theorem plainLaw_any (x : En) (hx : x.ok) (h : List Int) (hh : Bytes h ∧ h.length = 32) (w : World) (hT : TabsP w) : Calls Tryd.prog 8 #[.agg (enV x), .agg (nums .u8 32 (bf h))] w fun e w' => e = .returned (.bool true) ∧ Below w.heap.size w w' := by
  obtain ⟨W1, hW1⟩ : ∃ W1, W1 = (w.alloc (.cells (enV x) 27)).alloc (.cells (nums .u8 32 (bf h)) 24) := ⟨_, rfl⟩
  have hB1 : Below w.heap.size w W1 := by rw [hW1]; exact ((Below.refl _ w).alloc (Nat.le_refl _) _).alloc (by simp) _
  have hA1 : At 27 W1 w.heap.size (enV x) := by rw [hW1]; exact at_first _ _ _
  have hC1 : At 24 W1 (w.heap.size + 1) (nums .u8 32 (bf h)) := by rw [hW1]; exact at_second _ _ _
  have HAL := Lib.hid (alive_any W1 (hT.next hB1).tab (hT.next hB1).pow)
  have HX := Lib.hid (And.intro hx hh)
  have H1 := Lib.hid (And.intro hB1 (And.intro hA1 (And.intro hC1 (hT.next hB1))))
  have HW := Lib.hid hW1
  clear hT hx hh hB1 hA1 hC1 hW1
  go_enter Tryd.func8, Tryd.ntmps8
  go_wp2_with (first | (go_at_call 22; rw [← HW.out]) | fail)
  refine HAL.out.mono ?_
  rintro e W2 ⟨rfl, hb⟩
  have HBY := Lib.hid (bytes_any x HX.out.1 W2 (H1.out.2.2.2.next hb).tab)
  have H2 := Lib.hid (show Below w.heap.size w W2 ∧ At 27 W2 w.heap.size (enV x) ∧ At 24 W2 (w.heap.size + 1) (nums .u8 32 (bf h)) ∧ TabsP W2 from ⟨H1.out.1.trans (hb.mono H1.out.1.size), H1.out.2.1.below H1.out.2.1.lt hb, H1.out.2.2.1.below H1.out.2.2.1.lt hb, H1.out.2.2.2.next hb⟩)
  clear hb H1 HAL
  go_wp2_with (first | (refine load_en (X := x) (g := w.heap.size) H2.out.2.1 rfl rfl rfl ?_) | fail)
  refine HBY.out.mono ?_
  rintro e W3 ⟨hE, hb⟩
  have HPL := Lib.hid (plain_any x HX.out.1 W3 (H2.out.2.2.2.next hb).tab)
  have H3 := Lib.hid (show Below w.heap.size w W3 ∧ At 27 W3 w.heap.size (enV x) ∧ At 24 W3 (w.heap.size + 1) (nums .u8 32 (bf h)) ∧ TabsP W3 from ⟨H2.out.1.trans (hb.mono H2.out.1.size), H2.out.2.1.below H2.out.2.1.lt hb, H2.out.2.2.1.below H2.out.2.2.1.lt hb, H2.out.2.2.2.next hb⟩)
  have HSZ := Lib.hid H2.out.1.size
  clear hb H2 HBY
  rcases hE with ⟨k, va, m, rfl, hO⟩ | ⟨hno, rfl⟩
  · have HO := Lib.hid (And.intro hO m)
    have i0 : x.kind = (k : Int) := m.kind
    clear hO m
    go_wp2_with (first | (refine load_en (X := x) (g := w.heap.size) H3.out.2.1 rfl rfl rfl ?_) | fail)
    refine HPL.out.mono ?_
    rintro e W4 ⟨⟨k', vp, m', rfl, hp⟩ | ⟨hno, _⟩, hb⟩
    rotate_left
    · exact absurd ⟨k, HO.out.2⟩ hno
    obtain rfl := m'.one HO.out.2
    have H4 := Lib.hid (show Below w.heap.size w W4 ∧ At 27 W4 w.heap.size (enV x) ∧ At 24 W4 (w.heap.size + 1) (nums .u8 32 (bf h)) ∧ TabsP W4 from ⟨H3.out.1.trans (hb.mono H3.out.1.size), H3.out.2.1.below H3.out.2.1.lt hb, H3.out.2.2.1.below H3.out.2.2.1.lt hb, H3.out.2.2.2.next hb⟩)
    have HP := Lib.hid (And.intro (HO.out.1.below hb (Nat.le_refl _)) hp)
    obtain ⟨aa, ac, ea⟩ := HO.out.1.form
    obtain ⟨pa, pc, ep⟩ := hp.form
    subst ea ep
    have b0 : W4.cell? ⟨w.heap.size, 0, none⟩ = some (.int .i64 x.kind) := (H4.out.2.1.cell 0).trans (enV_get x).1
    clear hb hp H3 HPL HSZ
    by_cases h3 : k' < 3
    · have i1 : x.kind < 3 := by omega
      have e : bytesL k' x = plainL k' x := by unfold bytesL; rw [if_neg (by omega), List.append_nil]
      have hcp := conv_bys8 HP.out.2.bys
      have hca : (convert 28 9 (.slice aa (bytesL k' x).length ac)).run Tryd.prog W4 = .ok (.string (strOfNums (plainL k' x))) W4 := by
        have := conv_bys8 HP.out.1.bys
        rw [this, e]
      have HE := Lib.hid H4.out.1
      clear h3 m' i0 e
      go_wp2
      exact bodyPost_ret (v := .bool true) (by simp [results, Tryd.results8, go_sem]) rfl ⟨rfl, HE.out⟩
    · have i1 : ¬ x.kind < 3 := by omega
      obtain ⟨y, hy⟩ : ∃ y : En, y = { x with hash := h } := ⟨_, rfl⟩
      have hyok : y.ok := by
        rw [hy]
        have o := HX.out.1
        exact ⟨o.kind, o.meter, o.start, o.energy, o.band, o.price, o.cost, o.flags, o.count, o.seq, HX.out.2.1, HX.out.2.2⟩
      have hym : May k' y := by rw [hy]; exact m'.hashed (by omega) h
      obtain ⟨W5, hW5⟩ : ∃ W5, W5 = W4.alloc (.cells (enV x) 27) := ⟨_, rfl⟩
      have hb5 : Below W4.heap.size W4 W5 := by rw [hW5]; exact (Below.refl _ W4).alloc (Nat.le_refl _) _
      have hn5 : At 27 W5 W4.heap.size (enV x) := by rw [hW5]; exact At.new _ _ _
      obtain ⟨W6, hW6⟩ : ∃ W6, W6 = W5.setCells W4.heap.size 10 (nums .u8 32 (bf h)).toList := ⟨_, rfl⟩
      have h6 := at_hash (h := h) hn5
      rw [← hW6, ← hy] at h6
      have hb6 : Below W4.heap.size W4 W6 := hb5.trans h6.2
      have H5 := Lib.hid (And.intro (H4.out.2.2.1.below H4.out.2.2.1.lt hb5) (there_hash hn5))
      have H6 := Lib.hid h6.1
      have HW5 := Lib.hid hW5
      have HW6 := Lib.hid hW6
      have HQ := Lib.hid (plain_any y hyok W6 (H4.out.2.2.2.next hb6).tab)
      have HK := Lib.hid (And.intro h3 (And.intro m' (And.intro hym hb6)))
      have HY := Lib.hid hy
      clear h3 m' i0 hy hyok hym hW5 hb5 hn5 hW6 h6 hb6
      go_wp2_with (first | (refine load_en (X := x) (g := w.heap.size) H4.out.2.1 rfl rfl rfl ?_) | (refine store_en (X := x) (g := W4.heap.size) (At.new _ _ _) (by kernel_rfl) rfl rfl rfl rfl ?_; rw [alloc_setRow _ _ _ _ _ rfl, ← HW5.out]) | (refine load_arr (f := bf h) (g := w.heap.size + 1) H5.out.1 rfl rfl rfl ?_) | (refine wpList_store_mid rfl 25 _ _ rfl W4.heap.size 10 (nums .u8 32 (bf h)) rfl rfl (by rw [nums_size]; exact H5.out.2) (size_hash _) (nums_one _ _ _) ?_; rw [← HW6.out]) | (refine load_en (X := y) (g := W4.heap.size) H6.out rfl rfl rfl ?_) | fail)
      refine HQ.out.mono ?_
      rintro e W7 ⟨⟨k2, vq, m2, rfl, hq⟩ | ⟨hno, _⟩, hb7⟩
      rotate_left
      · exact absurd ⟨k', HK.out.2.2.1⟩ hno
      obtain rfl := m2.one HK.out.2.2.1
      obtain ⟨qa, qc, eq⟩ := hq.form
      subst eq
      have hb47 : Below W4.heap.size W4 W7 := HK.out.2.2.2.trans (hb7.mono HK.out.2.2.2.size)
      have hA7 : At 27 W7 w.heap.size (enV x) := H4.out.2.1.below H4.out.2.1.lt hb47
      have e1 : plainL k2 y = plainL k2 x := plain_same (fun f _ => by rw [HY.out]; rfl)
      have e2 : bytesL k2 x = plainL k2 x ++ x.hash := by unfold bytesL; rw [if_pos (by have := HK.out.1; omega)]
      obtain ⟨W8, hW8⟩ : ∃ W8 : World, W8 = { W7 with drawn := W7.drawn + 1 } := ⟨_, rfl⟩
      have h8 : ∀ {v : Value} {xs : List Int}, Bys8 W7.heap.size W7 v xs → Bys8 W8.heap.size W8 v xs := by rw [hW8]; exact fun h => h
      have hcp := conv_bys8 (h8 (HP.out.2.below hb47 (Nat.le_refl _)).bys)
      have hca : (convert 28 9 (.slice aa (bytesL k2 x).length ac)).run Tryd.prog W8 = .ok (.string (strOfNums (plainL k2 x) ++ strOfNums x.hash)) W8 := by
        rw [conv_bys8 (h8 (HP.out.1.below hb47 (Nat.le_refl _)).bys), e2, str_app]
      have hcq : (convert 28 9 (.slice qa (plainL k2 y).length qc)).run Tryd.prog W8 = .ok (.string (strOfNums (plainL k2 x))) W8 := by
        rw [conv_bys8 (h8 hq.bys), e1]
      have hsl := slice_hash W8 w.heap.size
      have hch : (convert 28 9 (.slice (some ⟨w.heap.size, 10, none⟩) 32 32)).run Tryd.prog W8 = .ok (.string (strOfNums x.hash)) W8 :=
        conv_bys8 (h8 ⟨HX.out.1.bytes, .inr ⟨w.heap.size, 10, 32, by rw [HX.out.1.len], hA7.lt, fun j hj => by rw [hA7.cell, enV_hash x j (by rw [← HX.out.1.len]; exact hj)]; rfl⟩⟩)
      have HE := Lib.hid (show Below w.heap.size w W8 by
        have := H4.out.1.trans (hb47.mono H4.out.1.size)
        rw [hW8]; exact ⟨this.os, this.tape, this.output, this.size, this.block⟩)
      have HW8 := Lib.hid hW8
      have hlen := bytesL_len (k := k2) HX.out.1
      have hadd : (Op.stringOp .add (strOfNums (plainL k2 x)) (strOfNums x.hash)).run Tryd.prog W8 = .ok (.string (strOfNums (plainL k2 x) ++ strOfNums x.hash)) W8 := by
        refine run_string_add_sum _ _ _ ?_
        rw [strOfNums_size, strOfNums_size, ← List.length_append, ← e2, hlen]
        unfold lenN
        have := sizes_small (k := k2)
        rw [lay_nums k2 HK.out.2.1.is, sizesOf_app] at this
        split <;> omega
      clear m2 hq hb7 hb47 hA7 e1 e2 HQ HP h8 hW8 hlen
      go_wp2
      refine wp_region_still_lit (by kernel_rfl) (by kernel_rfl) ?_
      rw [← HW8.out]
      repeat still_step
      refine wpStill_nil ?_
      go_wp2
      exact bodyPost_ret (v := .bool true) (by simp [results, Tryd.results8, go_sem]) rfl ⟨rfl, HE.out⟩
  · have HNO := Lib.hid hno
    clear hno
    go_wp2_with (first | (refine load_en (X := x) (g := w.heap.size) H3.out.2.1 rfl rfl rfl ?_) | fail)
    refine HPL.out.mono ?_
    rintro e W4 ⟨⟨k', vp, m', rfl, hp⟩ | ⟨_, rfl⟩, hb⟩
    · exact absurd ⟨k', m'⟩ HNO.out
    have HE := Lib.hid (H3.out.1.trans (hb.mono H3.out.1.size))
    clear hb H3 HPL HSZ
    go_wp2
    exact bodyPost_ret (v := .bool true) (by simp [results, Tryd.results8, go_sem]) rfl ⟨rfl, HE.out⟩
theorem plainLaw (x : En) (h : List Int) (w : World) (hT : TabsP w) (hx : x.ok) (hh : Bytes h ∧ h.length = 32) : Calls Tryd.prog 8 #[.agg (enV x), .agg (nums .u8 32 (bf h))] w fun e w' => e = .returned (.bool true) ∧ Below w.heap.size w w' := plainLaw_any x hx h hh w hT
end Go.Proofs.YtmeamdfmcpkofaaDoor
