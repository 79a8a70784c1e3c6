/- The document's read, walked. -/
import Derived.Test.YthlpigffjbhmoaaDoorRRead
set_option linter.unusedVariables false
set_option linter.unusedSimpArgs false
namespace Go.Proofs.YthlpigffjbhmoaaDoor
open Go.RowKit Go.Shelf
theorem drop_take_snoc {L : List UInt8} {k at' : Nat} {c : UInt8} (h : L[k]? = some c) (ha : at' ≤ k) : (L.take (k + 1)).drop at' = (L.take k).drop at' ++ [c] := by
  have hk : k < L.length := (List.getElem?_eq_some_iff.1 h).1
  rw [List.take_add_one, h]
  simp only [Option.toList_some]
  rw [List.drop_append_of_le_length (by rw [List.length_take]; omega)]
theorem take_snoc {L : List UInt8} {k : Nat} {c : UInt8} (h : L[k]? = some c) : L.take (k + 1) = L.take k ++ [c] := by
  rw [List.take_add_one, h]; rfl
theorem read_two_new (w : World) : ((w.alloc (.cells #[.int .i64 0, .slice none 0 0] 42)).alloc (.cells #[.int .i64 (-1), .slice none 0 0] 42)).heap.size = w.heap.size + 2 ∧ Below w.heap.size w ((w.alloc (.cells #[.int .i64 0, .slice none 0 0] 42)).alloc (.cells #[.int .i64 (-1), .slice none 0 0] 42)) ∧
    ((w.alloc (.cells #[.int .i64 0, .slice none 0 0] 42)).alloc (.cells #[.int .i64 (-1), .slice none 0 0] 42)).heap[w.heap.size]? = some (.cells #[.int .i64 0, .slice none 0 0] 42 (0, 0)) ∧
    ((w.alloc (.cells #[.int .i64 0, .slice none 0 0] 42)).alloc (.cells #[.int .i64 (-1), .slice none 0 0] 42)).heap[w.heap.size + 1]? = some (.cells #[.int .i64 (-1), .slice none 0 0] 42 (0, 0)) := by
  refine ⟨by simp, ((Below.refl _ w).alloc (Nat.le_refl _) _).alloc (by simp) _, heap_old (heap_alloc_new w _) _, ?_⟩
  have := heap_alloc_new (w.alloc (.cells #[.int .i64 0, .slice none 0 0] 42)) (.cells #[.int .i64 (-1), .slice none 0 0] 42)
  rwa [World.size_alloc] at this
theorem set_three0 {W : World} {b : Nat} {x y u v : Value} (h0 : W.heap[b]? = some (.cells #[x, y] 42 (0, 0))) :
    ((W.setCell ⟨b, 0, none⟩ u).setCell ⟨b, 1, none⟩ v).heap[b]? = some (.cells #[u, v] 42 (0, 0)) ∧ ∀ k, k ≠ b → ((W.setCell ⟨b, 0, none⟩ u).setCell ⟨b, 1, none⟩ v).heap[k]? = W.heap[k]? :=
  ⟨heap_setCell_same _ b 1 _ _ _ (heap_setCell_same _ b 0 _ _ _ h0), fun k hk => (heap_setCell_other _ ⟨b, 1, none⟩ k _ hk).trans (heap_setCell_other _ ⟨b, 0, none⟩ k _ hk)⟩
set_option maxRecDepth 100000 in
set_option maxHeartbeats 3000000 in
theorem read_any (s : ByteArray) (hs : s.size ≤ 100000) (w : World) : Calls Tryd.prog 31 #[.string s] w fun e w' => ReadE w.heap.size s.data.toList e w' ∧ Below w.heap.size w w' := by
  have hll : s.data.toList.length = s.size := by simp
  have HTW := Lib.hid (read_two_new w)
  have HVA := Lib.hid (fun (at' k : Nat) (hk : k ≤ s.size) W => (show Calls Tryd.prog 49 #[.string (s.extract at' k)] W fun e w' => (∃ x, e = .returned (.int .i64 x) ∧ ValIs ((s.data.toList.take k).drop at') x) ∧ Below W.heap.size W w' by
    have := value_any (s.extract at' k) (by simp [ByteArray.size_extract]; omega) W
    rw [cur_ext] at this
    exact this))
  have HLL := Lib.hid hll
  clear hll
  go_enter Tryd.func31, Tryd.ntmps31
  go_wp2
  go_loopw [4, 5] (fun aa ii wr => ∃ (k at' : Nat) (f : Int) (pa : Option Addr) (m pc : Nat) (ps : List Int) (done : List (List UInt8)), ii = .int .i64 k ∧ aa = .int .i64 at' ∧ k ≤ s.size + 1 ∧ at' ≤ k ∧ wr.heap[w.heap.size]? = some (.cells #[.int .i64 0, .slice none 0 0] 42 (0, 0)) ∧ wr.heap[w.heap.size + 1]? = some (.cells #[.int .i64 f, .slice pa m pc] 42 (0, 0)) ∧ ps.length = m ∧ m ≤ k ∧ OwnP (w.heap.size + 2) wr (.slice pa m pc) ps ∧ RDone done f ps ∧ (at' = 0 ↔ done = []) ∧ ((k ≤ s.size → pieces (s.data.toList.take k) = done ++ [(s.data.toList.take k).drop at']) ∧ (s.size < k → pieces s.data.toList = done)) ∧ Below w.heap.size w wr) (fun _ ii _ => (s.size + 1 - intOf ii).toNat)
  case atStart => exact ⟨0, 0, -1, none, 0, 0, [], [], rfl, rfl, Nat.zero_le _, Nat.le_refl _, HTW.out.2.2.1, HTW.out.2.2.2, rfl, Nat.le_refl _, OwnP.nil _ _, .inl ⟨rfl, rfl, rfl⟩, ⟨fun _ => rfl, fun _ => rfl⟩, ⟨fun _ => rfl, fun h => by omega⟩, HTW.out.2.1⟩
  case round =>
    obtain ⟨k, at', f, pa, m, pc, ps, done, rfl, rfl, hk, hat, hz0, hz1, hm, hmk, hO, hR, hat0, ⟨hP1, hP2⟩, hb⟩ := hrel
    have HZ0 := Lib.hid hz0
    have HZ1 := Lib.hid hz1
    have HM := Lib.hid hm
    have HO := Lib.hid hO
    have HR := Lib.hid hR
    have HAT := Lib.hid hat0
    have HP1 := Lib.hid hP1
    have HP2 := Lib.hid hP2
    have HB := Lib.hid hb
    have hw2 : w.heap.size + 2 ≤ wr.heap.size := (Array.getElem?_eq_some_iff.1 hz1).1
    have HW2 := Lib.hid hw2
    have c0 : wr.cell? ⟨w.heap.size, 0, none⟩ = some (.int .i64 0) := cell_of_row _ _ 0 _ _ _ hz0
    have c1 : wr.cell? ⟨w.heap.size, 1, none⟩ = some (.slice none 0 0) := cell_of_row _ _ 1 _ _ _ hz0
    have d0 : wr.cell? ⟨w.heap.size + 1, 0, none⟩ = some (.int .i64 f) := cell_of_row _ _ 0 _ _ _ hz1
    have d1 : wr.cell? ⟨w.heap.size + 1, 1, none⟩ = some (.slice pa m pc) := cell_of_row _ _ 1 _ _ _ hz1
    have e0 := frozen_of_row wr _ 0 _ _ hz0
    have e1 := frozen_of_row wr _ 1 _ _ hz0
    clear hz0 hz1 hm hO hR hat0 hP1 hP2 hb hw2 HTW
    by_cases hlast : s.size < k
    · have hli : ¬ (k : Int) ≤ s.size := by omega
      have HP := Lib.hid (HP2.out hlast)
      have hset := (set_three0 (u := .int .i64 f) (v := .slice pa m pc) HZ0.out)
      have HS := Lib.hid hset
      clear hset hlast d0
      have d0 : wr.cell? ⟨w.heap.size + 1, 0, none⟩ = some (.int .i64 f) := cell_of_row _ _ 0 _ _ _ HZ1.out
      go_wp2
      refine bodyPost_ret (results_r rfl HS.out.1) rfl ?_
      exact ⟨⟨f, pa, m, pc, ps, rfl, HM.out, (HO.out.kept (fun k hk => HS.out.2 k (by have := (HO.out.row k hk).1; omega))).base (by omega), by rw [HP.out]; exact HR.out, by omega⟩, (HB.out.setCell (p := ⟨w.heap.size, 0, none⟩) (Nat.le_refl _) _).setCell (p := ⟨w.heap.size, 1, none⟩) (Nat.le_refl _) _⟩
    have hks : k ≤ s.size := by omega
    have hksi : (k : Int) ≤ s.size := by omega
    have HCUR := Lib.hid (HP1.out hks)
    by_cases hsep : k < s.size ∧ s[k]!.toNat ≠ 32
    · obtain ⟨hlt, hne⟩ := hsep
      have hlti : (k : Int) < s.size := by omega
      have hbang : s[k]! = s[k] := by rw [getElem!_pos s k hlt]
      rw [hbang] at hne
      have hget : s.data.toList[k]? = some s[k] := by rw [List.getElem?_eq_getElem (by rw [HLL.out]; exact hlt)]; simp [ByteArray.getElem_eq_getElem_data]
      have HN := Lib.hid (show pieces (s.data.toList.take (k + 1)) = done ++ [(s.data.toList.take (k + 1)).drop at'] by
        rw [drop_take_snoc hget hat, take_snoc hget]
        exact pieces_snoc _ _ (fun e => hne (by rw [e]; rfl)) _ _ HCUR.out)
      have g1 : ((s[k].toNat : Int) != 32) = true := by simp; omega
      clear hget hbang
      go_wp2
      go_roundw
      case rel => exact ⟨k + 1, at', f, pa, m, pc, ps, done, by go_num, rfl, by omega, by omega, HZ0.out, HZ1.out, HM.out, by omega, HO.out, HR.out, HAT.out, ⟨fun _ => HN.out, fun h => by omega⟩, HB.out⟩
      case measure => first | (simp [intOf]; done) | (simp [intOf]; omega)
    -- the end of a piece
    have hext : (at' : Int) ≤ k := by omega
    have HVK := Lib.hid (HVA.out at' k hks wr)
    have HNX := Lib.hid (show (k + 1 ≤ s.size → pieces (s.data.toList.take (k + 1)) = (done ++ [(s.data.toList.take k).drop at']) ++ [(s.data.toList.take (k + 1)).drop (k + 1)]) ∧ (s.size < k + 1 → pieces s.data.toList = done ++ [(s.data.toList.take k).drop at']) from by
      refine ⟨fun h => ?_, fun h => ?_⟩
      · have hlt : k < s.size := by omega
        have hget : s.data.toList[k]? = some s[k] := by rw [List.getElem?_eq_getElem (by rw [HLL.out]; exact hlt)]; simp [ByteArray.getElem_eq_getElem_data]
        have h32 : s[k] = 32 := by
          have : s[k]! = s[k] := by rw [getElem!_pos s k hlt]
          rw [this] at hsep
          exact UInt8.toNat_inj.1 (Classical.byContradiction fun q => hsep ⟨hlt, q⟩)
        have hdr : (s.data.toList.take k ++ [32]).drop (k + 1) = [] := List.drop_eq_nil_of_le (by rw [List.length_append, List.length_take]; simp; omega)
        rw [take_snoc hget, h32, pieces_blank, HCUR.out, hdr]
      · rw [← HCUR.out, List.take_of_length_le (by rw [HLL.out]; omega)])
    obtain ⟨cur, hcur⟩ : ∃ cur, (s.data.toList.take k).drop at' = cur := ⟨_, rfl⟩
    rw [hcur] at HVK HNX
    clear hcur
    by_cases hlt : k < s.size
    case pos =>
      have hlti : (k : Int) < s.size := by omega
      have hbang : s[k]! = s[k] := by rw [getElem!_pos s k hlt]
      have hn32 : s[k].toNat = 32 := by rw [hbang] at hsep; exact Classical.byContradiction fun q => hsep ⟨hlt, q⟩
      have g1 : ((s[k].toNat : Int) != 32) = false := by simp [hn32]
      clear hsep hbang hn32
      by_cases h0 : at' = 0
      · have h0i : ((at' : Int) == 0) = true := by simp [h0]
        have HD0 := Lib.hid (HAT.out.1 h0)
        clear h0
        go_wp2_with fail
        refine HVK.out.mono ?_
        rintro e w1 ⟨⟨x, rfl, hx⟩, hB⟩
        have HX := Lib.hid hx
        have hw2 := HW2.out
        have HA0 := Lib.hid ((hB.block w.heap.size (by omega)).trans HZ0.out)
        have HA1 := Lib.hid ((hB.block (w.heap.size + 1) (by omega)).trans HZ1.out)
        have HOB := Lib.hid (HO.out.below hB (Nat.le_refl _))
        have HB1 := Lib.hid (HB.out.trans (hB.mono HB.out.size))
        have u0 : w1.cell? ⟨w.heap.size + 1, 0, none⟩ = some (.int .i64 f) := cell_of_row _ _ 0 _ _ _ HA1.out
        have v0 := frozen_of_row w1 _ 0 _ _ HA1.out
        clear hB hx hw2 c0 c1 d0 d1 e0 e1
        go_wp2
        go_roundw
        case rel =>
          have hr := HR.out
          rw [HD0.out] at hr
          obtain ⟨rfl, hr2⟩ := rdone_first hr HX.out
          have hnx := HNX.out
          rw [HD0.out] at hnx
          have hm0 : m = 0 := HM.out.symm
          subst hm0
          exact ⟨k + 1, k + 1, x, pa, 0, pc, [], [cur], by go_num, by go_num, by omega, Nat.le_refl _, (heap_setCell_other _ ⟨w.heap.size + 1, 0, none⟩ w.heap.size _ (by show w.heap.size ≠ w.heap.size + 1; omega)).trans HA0.out, heap_setCell_same _ (w.heap.size + 1) 0 _ _ _ HA1.out, rfl, Nat.zero_le _, HOB.out.kept (fun q hq => heap_setCell_other _ ⟨w.heap.size + 1, 0, none⟩ q _ (by have := (HOB.out.row q hq).1; show q ≠ w.heap.size + 1; omega)), hr2, ⟨fun h => by omega, fun h => by cases h⟩, hnx, HB1.out.setCell (p := ⟨w.heap.size + 1, 0, none⟩) (Nat.le_succ _) _⟩
        case measure => first | (simp [intOf]; done) | (simp [intOf]; omega)
      · have h0i : ((at' : Int) == 0) = false := by simp [h0]
        have H0 := Lib.hid h0
        clear h0
        go_wp2_with fail
        refine HVK.out.mono ?_
        rintro e w1 ⟨⟨x, rfl, hx⟩, hB⟩
        have HX := Lib.hid hx
        have hw2 := HW2.out
        have hs1 := hB.size
        have HA0 := Lib.hid (heap_old ((hB.block w.heap.size (by omega)).trans HZ0.out) (.cells #[.int .i64 x] 2))
        have HA1 := Lib.hid (heap_old ((hB.block (w.heap.size + 1) (by omega)).trans HZ1.out) (.cells #[.int .i64 x] 2))
        have HW1 := Lib.hid (show w.heap.size + 2 ≤ w1.heap.size by omega)
        have u1 : w1.cell? ⟨w.heap.size + 1, 1, none⟩ = some (.slice pa m pc) := cell_of_row _ _ 1 _ _ _ ((hB.block (w.heap.size + 1) (by omega)).trans HZ1.out)
        have HOB := Lib.hid ((HO.out.below hB (Nat.le_refl _)).below ((Below.refl _ w1).alloc (Nat.le_refl _) (.cells #[.int .i64 x] 2)) (Nat.le_refl _))
        have HB1 := Lib.hid ((HB.out.trans (hB.mono HB.out.size)).alloc (HB.out.trans (hB.mono HB.out.size)).size (.cells #[.int .i64 x] 2))
        have R0 := Lib.hid (cell_of_row _ w1.heap.size 0 _ _ _ (heap_alloc_new w1 (.cells #[.int .i64 x] 2)) : (w1.alloc (.cells #[.int .i64 x] 2)).cell? ⟨w1.heap.size, 0, none⟩ = some (.int .i64 x))
        have HSA := Lib.hid (World.size_alloc w1 (.cells #[.int .i64 x] 2))
        clear hB hx hw2 hs1 c0 c1 d0 d1 e0 e1
        go_wp2_with (first
          | (at_builtin; refine wpList_OwnP rfl (.tmp 34) (.tmp 36) rfl (w.heap.size + 2) _ ps rfl HOB.out ⟨w1.heap.size, 0, none⟩ 1 1 [x] rfl rfl (one_price R0.out) (m + 1) (by rw [HM.out]) (by omega) (by rw [HSA.out]; have := HW1.out; omega) ?_; intro a2 c2 w2 hO2 hG2
             have hb1 := (hG2.block (w.heap.size + 1) (by rw [HSA.out]; have := HW1.out; omega) (fun e => by have := (HOB.out.row (w.heap.size + 1) e.symm).1; omega)).trans HA1.out
             have y1 : w2.cell? ⟨w.heap.size + 1, 1, none⟩ = _ := cell_of_row _ _ 1 _ _ _ hb1
             have yf : w2.frozen? ⟨w.heap.size + 1, 1, none⟩ = false := frozen_of_row w2 _ 1 _ _ hb1))
        have hb0 := (hG2.block w.heap.size (by rw [HSA.out]; have := HW1.out; omega) (fun e => by have := (HOB.out.row w.heap.size e.symm).1; omega)).trans HA0.out
        have HB0 := Lib.hid hb0
        have HB1' := Lib.hid hb1
        have HB2 := Lib.hid (HB1.out.trans ((Below.refl w.heap.size _).grown hG2 (by rw [HSA.out]; have := HW1.out; omega) (fun r e => by have := (HOB.out.row r e).1; omega)))
        have HO2 := Lib.hid hO2
        clear hb0 hb1 hG2 hO2
        go_wp2
        go_roundw
        case rel =>
          exact ⟨k + 1, k + 1, f, a2, m + 1, c2, ps ++ [x], done ++ [cur], by go_num, by go_num, by omega, Nat.le_refl _, (heap_setCell_other _ ⟨w.heap.size + 1, 1, none⟩ w.heap.size _ (by show w.heap.size ≠ w.heap.size + 1; omega)).trans HB0.out, heap_setCell_same _ (w.heap.size + 1) 1 _ _ _ HB1'.out, by rw [List.length_append, HM.out]; rfl, by omega, HO2.out.kept (fun q hq => heap_setCell_other _ ⟨w.heap.size + 1, 1, none⟩ q _ (by have := (HO2.out.row q hq).1; show q ≠ w.heap.size + 1; omega)), rdone_more HR.out (fun e => H0.out (HAT.out.2 e)) HX.out, ⟨fun h => by omega, fun h => by simp at h⟩, HNX.out, HB2.out.setCell (p := ⟨w.heap.size + 1, 1, none⟩) (Nat.le_succ _) _⟩
        case measure => first | (simp [intOf]; done) | (simp [intOf]; omega)
    case neg =>
      have hlti : ¬ (k : Int) < s.size := by omega
      clear hsep
      by_cases h0 : at' = 0
      · have h0i : ((at' : Int) == 0) = true := by simp [h0]
        have HD0 := Lib.hid (HAT.out.1 h0)
        clear h0
        go_wp2_with fail
        refine HVK.out.mono ?_
        rintro e w1 ⟨⟨x, rfl, hx⟩, hB⟩
        have HX := Lib.hid hx
        have hw2 := HW2.out
        have HA0 := Lib.hid ((hB.block w.heap.size (by omega)).trans HZ0.out)
        have HA1 := Lib.hid ((hB.block (w.heap.size + 1) (by omega)).trans HZ1.out)
        have HOB := Lib.hid (HO.out.below hB (Nat.le_refl _))
        have HB1 := Lib.hid (HB.out.trans (hB.mono HB.out.size))
        have u0 : w1.cell? ⟨w.heap.size + 1, 0, none⟩ = some (.int .i64 f) := cell_of_row _ _ 0 _ _ _ HA1.out
        have v0 := frozen_of_row w1 _ 0 _ _ HA1.out
        clear hB hx hw2 c0 c1 d0 d1 e0 e1
        go_wp2
        go_roundw
        case rel =>
          have hr := HR.out
          rw [HD0.out] at hr
          obtain ⟨rfl, hr2⟩ := rdone_first hr HX.out
          have hnx := HNX.out
          rw [HD0.out] at hnx
          have hm0 : m = 0 := HM.out.symm
          subst hm0
          exact ⟨k + 1, k + 1, x, pa, 0, pc, [], [cur], by go_num, by go_num, by omega, Nat.le_refl _, (heap_setCell_other _ ⟨w.heap.size + 1, 0, none⟩ w.heap.size _ (by show w.heap.size ≠ w.heap.size + 1; omega)).trans HA0.out, heap_setCell_same _ (w.heap.size + 1) 0 _ _ _ HA1.out, rfl, Nat.zero_le _, HOB.out.kept (fun q hq => heap_setCell_other _ ⟨w.heap.size + 1, 0, none⟩ q _ (by have := (HOB.out.row q hq).1; show q ≠ w.heap.size + 1; omega)), hr2, ⟨fun h => by omega, fun h => by cases h⟩, hnx, HB1.out.setCell (p := ⟨w.heap.size + 1, 0, none⟩) (Nat.le_succ _) _⟩
        case measure => first | (simp [intOf]; done) | (simp [intOf]; omega)
      · have h0i : ((at' : Int) == 0) = false := by simp [h0]
        have H0 := Lib.hid h0
        clear h0
        go_wp2_with fail
        refine HVK.out.mono ?_
        rintro e w1 ⟨⟨x, rfl, hx⟩, hB⟩
        have HX := Lib.hid hx
        have hw2 := HW2.out
        have hs1 := hB.size
        have HA0 := Lib.hid (heap_old ((hB.block w.heap.size (by omega)).trans HZ0.out) (.cells #[.int .i64 x] 2))
        have HA1 := Lib.hid (heap_old ((hB.block (w.heap.size + 1) (by omega)).trans HZ1.out) (.cells #[.int .i64 x] 2))
        have HW1 := Lib.hid (show w.heap.size + 2 ≤ w1.heap.size by omega)
        have u1 : w1.cell? ⟨w.heap.size + 1, 1, none⟩ = some (.slice pa m pc) := cell_of_row _ _ 1 _ _ _ ((hB.block (w.heap.size + 1) (by omega)).trans HZ1.out)
        have HOB := Lib.hid ((HO.out.below hB (Nat.le_refl _)).below ((Below.refl _ w1).alloc (Nat.le_refl _) (.cells #[.int .i64 x] 2)) (Nat.le_refl _))
        have HB1 := Lib.hid ((HB.out.trans (hB.mono HB.out.size)).alloc (HB.out.trans (hB.mono HB.out.size)).size (.cells #[.int .i64 x] 2))
        have R0 := Lib.hid (cell_of_row _ w1.heap.size 0 _ _ _ (heap_alloc_new w1 (.cells #[.int .i64 x] 2)) : (w1.alloc (.cells #[.int .i64 x] 2)).cell? ⟨w1.heap.size, 0, none⟩ = some (.int .i64 x))
        have HSA := Lib.hid (World.size_alloc w1 (.cells #[.int .i64 x] 2))
        clear hB hx hw2 hs1 c0 c1 d0 d1 e0 e1
        go_wp2_with (first
          | (at_builtin; refine wpList_OwnP rfl (.tmp 34) (.tmp 36) rfl (w.heap.size + 2) _ ps rfl HOB.out ⟨w1.heap.size, 0, none⟩ 1 1 [x] rfl rfl (one_price R0.out) (m + 1) (by rw [HM.out]) (by omega) (by rw [HSA.out]; have := HW1.out; omega) ?_; intro a2 c2 w2 hO2 hG2
             have hb1 := (hG2.block (w.heap.size + 1) (by rw [HSA.out]; have := HW1.out; omega) (fun e => by have := (HOB.out.row (w.heap.size + 1) e.symm).1; omega)).trans HA1.out
             have y1 : w2.cell? ⟨w.heap.size + 1, 1, none⟩ = _ := cell_of_row _ _ 1 _ _ _ hb1
             have yf : w2.frozen? ⟨w.heap.size + 1, 1, none⟩ = false := frozen_of_row w2 _ 1 _ _ hb1))
        have hb0 := (hG2.block w.heap.size (by rw [HSA.out]; have := HW1.out; omega) (fun e => by have := (HOB.out.row w.heap.size e.symm).1; omega)).trans HA0.out
        have HB0 := Lib.hid hb0
        have HB1' := Lib.hid hb1
        have HB2 := Lib.hid (HB1.out.trans ((Below.refl w.heap.size _).grown hG2 (by rw [HSA.out]; have := HW1.out; omega) (fun r e => by have := (HOB.out.row r e).1; omega)))
        have HO2 := Lib.hid hO2
        clear hb0 hb1 hG2 hO2
        go_wp2
        go_roundw
        case rel =>
          exact ⟨k + 1, k + 1, f, a2, m + 1, c2, ps ++ [x], done ++ [cur], by go_num, by go_num, by omega, Nat.le_refl _, (heap_setCell_other _ ⟨w.heap.size + 1, 1, none⟩ w.heap.size _ (by show w.heap.size ≠ w.heap.size + 1; omega)).trans HB0.out, heap_setCell_same _ (w.heap.size + 1) 1 _ _ _ HB1'.out, by rw [List.length_append, HM.out]; rfl, by omega, HO2.out.kept (fun q hq => heap_setCell_other _ ⟨w.heap.size + 1, 1, none⟩ q _ (by have := (HO2.out.row q hq).1; show q ≠ w.heap.size + 1; omega)), rdone_more HR.out (fun e => H0.out (HAT.out.2 e)) HX.out, ⟨fun h => by omega, fun h => by simp at h⟩, HNX.out, HB2.out.setCell (p := ⟨w.heap.size + 1, 1, none⟩) (Nat.le_succ _) _⟩
        case measure => first | (simp [intOf]; done) | (simp [intOf]; omega)
end Go.Proofs.YthlpigffjbhmoaaDoor
