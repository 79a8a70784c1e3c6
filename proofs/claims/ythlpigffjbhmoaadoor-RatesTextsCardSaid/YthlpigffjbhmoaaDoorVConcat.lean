/- The library's Grow, Concat and Clone at versions and prices. -/
import Derived.Test.YthlpigffjbhmoaaDoorVRow
import Derived.Test.YthlpigffjbhmoaaDoorVFind
import Derived.Lib.SliceRun
set_option linter.unusedVariables false
set_option linter.unusedSimpArgs false
namespace Go.Proofs.YthlpigffjbhmoaaDoor
open Go.RowKit Go.Shelf
theorem zeroC_size (n : Nat) : (Builtin.zeroCells (Value.agg #[.int .i64 0, .slice none 0 0]).cells n).size = n * 2 := by
  simp [Builtin.zeroCells, Value.cells]
theorem OwnE.there {base : Nat} {w : World} {v : Value} {xs : List Rw} (h : OwnE base w v xs) (hx : 0 < xs.length) : ∃ g c, v = .slice (some ⟨g, 0, none⟩) xs.length c ∧ base ≤ g ∧ g < w.heap.size ∧ xs.length ≤ c := by
  rcases h.2 with ⟨rfl, e⟩ | ⟨g, cap, cur, rfl, hg, hh, h1, h2, _⟩
  · omega
  · exact ⟨g, cap, rfl, hg, (Array.getElem?_eq_some_iff.1 hh).1, h1⟩
set_option maxRecDepth 100000 in
set_option maxHeartbeats 4000000 in
theorem grow_any (n : Nat) (h1 : 1 ≤ n) (h2 : n ≤ 1000) (w : World) :
    Calls Tryd.prog 52 #[.slice none 0 0, .int .i64 n] w fun e w' => (∃ c, e = .returned (.slice (some ⟨w.heap.size, 0, none⟩) 0 c) ∧ OwnE w.heap.size w' (.slice (some ⟨w.heap.size, 0, none⟩) 0 c) []) ∧ Below w.heap.size w w' := by
  obtain ⟨i, hi, hz, hs, hb⟩ := partsE
  have hrz := fun ty => Lib.run_append_nil_zeros (P := Tryd.prog) w 22 3 ty 42 i _ .i64 .i64 Tryd.underlying22 Tryd.underlying3 hi hz n (by omega) (by omega) (by omega) (by rw [hb]; omega)
  have hG : n ≤ grownCap w n 0 42 := grownCap_ge w _ _ _
  have hGm := grownCap_le_maxLen w n 0 42 (by unfold maxLen; omega)
  obtain ⟨G, hGG⟩ : ∃ G, grownCap w n 0 42 = G := ⟨_, rfl⟩
  rw [hGG] at hrz hG hGm
  have hGx := hGm
  unfold maxLen at hGx
  have HOWN : Hid (OwnE w.heap.size (w.drew.alloc (.cells (Builtin.zeroCells (Value.agg #[.int .i64 0, .slice none 0 0]).cells n ++ Builtin.zeroCells (Value.agg #[.int .i64 0, .slice none 0 0]).cells (G - n)) 42)) (.slice (some ⟨w.heap.size, 0, none⟩) 0 G) []) := Lib.hid (by
    refine ⟨rfl, .inr ⟨w.heap.size, G, _, rfl, Nat.le_refl _, heap_alloc_new w.drew _, Nat.zero_le _, hGm, ?_, rfl⟩⟩
    rw [Array.size_append, zeroC_size, zeroC_size]
    omega)
  have HB : Hid (Below w.heap.size w (w.drew.alloc (.cells (Builtin.zeroCells (Value.agg #[.int .i64 0, .slice none 0 0]).cells n ++ Builtin.zeroCells (Value.agg #[.int .i64 0, .slice none 0 0]).cells (G - n)) 42))) := Lib.hid ((Below.refl _ w).drew.alloc (Nat.le_refl _) _)
  have g1 : ¬ (n : Int) < 0 := by omega
  have g2 : (0 : Int) < n := by omega
  have gw : wrap64 (n : Int) = n := by unfold wrap64; omega
  clear hi hz hs hb hGm
  go_enter Tryd.func52, Tryd.ntmps52
  go_wp2_with (at_builtin; refine Lib.wpList_append_run _ rfl _ _ _ _ rfl _ _ rfl rfl _ _ (hrz _) ?_)
  all_goals
    go_ret
    exact ⟨⟨_, rfl, HOWN.out⟩, HB.out⟩
/-- A piece of what is concatenated. -/
structure Pc where
  a : Option Addr
  c : Nat
  xs : List Rw
def PcsAt (B : Nat) (W : World) (sa : Option Addr) (ps : List Pc) : Prop :=
  ∀ (j : Nat) (p : Pc), ps[j]? = some p → ∃ b o, sa = some ⟨b, o, none⟩ ∧ b < B ∧ W.cell? ⟨b, o + j, none⟩ = some (.slice p.a p.xs.length p.c) ∧ RwsAt B W p.a p.xs
theorem PcsAt.next {B n : Nat} {W X : World} {a : Option Addr} {ps : List Pc} (h : PcsAt B W a ps) (hB : Below n W X) (hn : B ≤ n) : PcsAt B X a ps := by
  intro j p hj
  obtain ⟨b, o, e, hb, h0, h1⟩ := h j p hj
  exact ⟨b, o, e, hb, (hB.cell (p := ⟨b, o + j, none⟩) (by show b < n; omega)).trans h0, h1.next hB hn⟩
def flat (ps : List Pc) : List Rw := ps.flatMap (·.xs)
theorem flat_succ {ps : List Pc} {j : Nat} {p : Pc} (h : ps[j]? = some p) : flat (ps.take (j + 1)) = flat (ps.take j) ++ p.xs := by
  unfold flat
  rw [List.take_add_one, h]
  simp
theorem flat_le (ps : List Pc) (j : Nat) : (flat (ps.take j)).length ≤ (flat ps).length := by
  have h : flat ps = flat (ps.take j) ++ flat (ps.drop j) := by
    unfold flat
    rw [← List.flatMap_append, List.take_append_drop]
  rw [h, List.length_append]; omega
set_option maxRecDepth 100000 in
set_option maxHeartbeats 4000000 in
theorem concat_any (sa : Option Addr) (n cap : Nat) (ps : List Pc) (hn : ps.length = n) (hn9 : n ≤ 1000) (h1 : 1 ≤ (flat ps).length) (h2 : (flat ps).length ≤ 1000) (w : World) (hA : PcsAt w.heap.size w sa ps) :
    Calls Tryd.prog 37 #[.slice sa n cap] w fun e w' => (∃ g c, e = .returned (.slice (some ⟨g, 0, none⟩) (flat ps).length c) ∧ OwnE w.heap.size w' (.slice (some ⟨g, 0, none⟩) (flat ps).length c) (flat ps) ∧ w.heap.size ≤ g) ∧ Below w.heap.size w w' := by
  have HA := Lib.hid hA
  have HN := Lib.hid hn
  obtain ⟨T, hT⟩ : ∃ T, (flat ps).length = T := ⟨_, rfl⟩
  rw [hT] at h1 h2 ⊢
  have HLE := Lib.hid (fun j => (show (flat (ps.take j)).length ≤ T by rw [← hT]; exact flat_le ps j))
  have HGR := Lib.hid (fun W => grow_any T h1 h2 W)
  have HT := Lib.hid hT
  clear hA hn hT
  go_enter Tryd.func37, Tryd.ntmps37
  go_wp2_with fail
  go_loopw [3, 11] (fun u i wr => ∃ (j K : Nat), j ≤ n ∧ i = .int .i64 j ∧ u = .int .i64 K ∧ (flat (ps.take j)).length = K ∧ w = wr) (fun _ i _ => (n - intOf i).toNat)
  case atStart => exact ⟨0, 0, Nat.zero_le _, rfl, rfl, by rw [List.take_zero]; rfl, rfl⟩
  case round =>
    obtain ⟨j, K, hj, rfl, rfl, hK, rfl⟩ := hrel
    have hKT : K ≤ T := by rw [← hK]; exact HLE.out j
    have HK := Lib.hid hK
    clear hK
    by_cases hlt : j < n
    · have hlti : (j : Int) < n := by omega
      obtain ⟨p, hp⟩ : ∃ p, ps[j]? = some p := ⟨_, List.getElem?_eq_getElem (by rw [HN.out]; exact hlt)⟩
      obtain ⟨b, o, rfl, hbl, c0, hr⟩ := HA.out j p hp
      obtain ⟨m, hm⟩ : ∃ m, p.xs.length = m := ⟨_, rfl⟩
      rw [hm] at c0
      have hs : (flat (ps.take (j + 1))).length = K + m := by rw [flat_succ hp, List.length_append, HK.out, hm]
      have hsT : K + m ≤ T := by rw [← hs]; exact HLE.out (j + 1)
      have HS := Lib.hid hs
      have gn : ¬ (((K : Int) + m) < 0) := by omega
      clear hp hr hm hs
      go_wp2
      go_roundw
      case rel => exact ⟨j + 1, K + m, by omega, by go_num, by go_num, HS.out, by trivial⟩
      case measure => first | (simp [intOf]; done) | (simp [intOf]; omega)
    · have hje : j = n := by omega
      subst hje
      have hnl : ¬ ((j : Int) < j) := by omega
      obtain rfl : K = T := by rw [← HK.out, List.take_of_length_le (by have := HN.out; omega), HT.out]
      go_wp2_with fail
      refine (HGR.out w).mono ?_
      rintro e w1 ⟨⟨c, rfl, hO⟩, hB1⟩
      have HO := Lib.hid hO
      have HB1 := Lib.hid hB1
      have hGB := hO.row w.heap.size rfl
      have HGB := Lib.hid hGB
      clear hO hB1 hGB
      go_wp2_with fail
      go_loopw [6, 27] (fun u i wr => ∃ (q k g c : Nat), q ≤ j ∧ i = .int .i64 q ∧ u = .slice (some ⟨g, 0, none⟩) k c ∧ (flat (ps.take q)).length = k ∧ OwnE w.heap.size wr (.slice (some ⟨g, 0, none⟩) k c) (flat (ps.take q)) ∧ (w.heap.size ≤ g ∧ k ≤ c) ∧ Below w.heap.size w wr) (fun _ i _ => (j - intOf i).toNat)
      case atStart => exact ⟨0, 0, w.heap.size, c, Nat.zero_le _, rfl, rfl, by rw [List.take_zero]; rfl, by rw [List.take_zero]; exact HO.out, ⟨Nat.le_refl _, Nat.zero_le _⟩, HB1.out⟩
      case round =>
        obtain ⟨q, k, g, c2, hq, rfl, rfl, hk, hO, ⟨hg, hkc⟩, hb⟩ := hrel
        have hkT : k ≤ K := by rw [← hk]; exact HLE.out q
        have HK2 := Lib.hid hk
        have HO2 := Lib.hid hO
        have HB2 := Lib.hid hb
        clear hk hO hb HO HB1 HGB HK
        by_cases hlt2 : q < j
        · have hlti : (q : Int) < j := by omega
          obtain ⟨⟨pa, pc, xs⟩, hp⟩ : ∃ p, ps[q]? = some p := ⟨_, List.getElem?_eq_getElem (by rw [HN.out]; exact hlt2)⟩
          obtain ⟨b, o, rfl, hbl, c0, hr⟩ := HA.out.next HB2.out (Nat.le_refl _) q _ hp
          obtain ⟨m, hm⟩ : ∃ m, xs.length = m := ⟨_, rfl⟩
          simp only at c0 hr
          rw [hm] at c0
          have hfs : flat (ps.take (q + 1)) = flat (ps.take q) ++ xs := flat_succ hp
          have HFS := Lib.hid hfs
          have hs : (flat (ps.take (q + 1))).length = k + m := by rw [hfs, List.length_append, HK2.out, hm]
          have hsT : k + m ≤ K := by rw [← hs]; exact HLE.out (q + 1)
          have HS := Lib.hid hs
          have HM := Lib.hid hm
          have HR := Lib.hid hr
          clear hp hr hm hs hfs
          by_cases hm0 : m = 0
          · subst hm0
            obtain ⟨i0, hi0, _⟩ := partsE
            have hrz := fun ty => run_append_zero (w := wr) (ty := ty) (x := pa) (c := pc) (b := ⟨g, 0, none⟩) (n := k) (cap := c2) Tryd.underlying22 hi0 hkc
            have HRZ := Lib.hid hrz
            clear hrz hi0
            go_wp2_with (at_builtin; refine Lib.wpList_append_run _ rfl _ _ _ _ rfl _ _ rfl rfl _ _ (HRZ.out _) ?_)
            go_roundw
            case rel => exact ⟨q + 1, k, g, c2, by omega, by go_num, by rfl, HS.out, by rw [HFS.out, List.length_eq_zero_iff.1 HM.out, List.append_nil]; exact HO2.out, ⟨hg, hkc⟩, HB2.out⟩
            case measure => first | (simp [intOf]; done) | (simp [intOf]; omega)
          · obtain ⟨pb, po, hpa⟩ : ∃ pb po, pa = some ⟨pb, po, none⟩ := by
              obtain ⟨b', o', e, _⟩ := HR.out 0 _ (List.getElem?_eq_getElem (by rw [HM.out]; omega))
              exact ⟨b', o', e⟩
            subst hpa
            go_wp2_with (at_builtin; refine wpList_OwnE rfl (.tmp 31) (.tmp 32) rfl w.heap.size _ (flat (ps.take q)) rfl HO2.out ⟨pb, po, none⟩ m pc xs rfl HM.out HR.out.cells (k + m) (by rw [HK2.out]) (by omega) HB2.out.size ?_; intro a3 c3 w3 hO3 hG3; refine Hid.out ?_)
            refine Lib.hid ?_
            have hrow := HO2.out.row
            have HB3 := Lib.hid (HB2.out.grown hG3 HB2.out.size (fun r e => (hrow r e).1))
            obtain ⟨g3, c3', e3, hg3, _, hkc3⟩ := hO3.there (by rw [← HFS.out, HS.out]; omega)
            rw [← HFS.out, HS.out] at e3 hkc3
            cases e3
            have HO3 := Lib.hid hO3
            clear hO3 hG3 hrow
            go_wp2
            go_roundw
            case rel => exact ⟨q + 1, k + m, g3, c3, by omega, by go_num, rfl, HS.out, by rw [HFS.out]; exact HO3.out, ⟨hg3, hkc3⟩, HB3.out⟩
            case measure => first | (simp [intOf]; done) | (simp [intOf]; omega)
        · have hqe : q = j := by omega
          subst hqe
          have hnl2 : ¬ ((q : Int) < q) := by omega
          have hall : flat (ps.take q) = flat ps := by rw [List.take_of_length_le (by have := HN.out; omega)]
          obtain rfl : k = K := by rw [← HK2.out, hall, HT.out]
          have HALL := Lib.hid hall
          clear hall
          go_wp2
          go_ret
          exact ⟨⟨g, c2, rfl, by rw [← HALL.out]; exact HO2.out, hg⟩, HB2.out⟩
set_option maxRecDepth 100000 in
set_option maxHeartbeats 2000000 in
theorem clone_any (a : Option Addr) (m cap : Nat) (ps : List Int) (hm : ps.length = m) (h1 : 1 ≤ m) (h2 : m ≤ 1000) (w : World) (hA : PrAt w.heap.size w a ps) :
    Calls Tryd.prog 38 #[.slice a m cap] w fun e w' => (∃ a' c', e = .returned (.slice a' m c') ∧ OwnP w.heap.size w' (.slice a' m c') ps) ∧ Below w.heap.size w w' := by
  obtain ⟨b, o, hab⟩ : ∃ b o, a = some ⟨b, o, none⟩ := by
    obtain ⟨b', o', e, _⟩ := hA 0 _ (List.getElem?_eq_getElem (by omega))
    exact ⟨b', o', e⟩
  subst hab
  have hb1 := (Below.refl _ w).alloc (Nat.le_refl _) (.cells #[] 2)
  have hown : OwnP w.heap.size (w.alloc (.cells #[] 2)) (.slice (some ⟨w.heap.size, 0, none⟩) 0 0) [] := ⟨rfl, .inr ⟨w.heap.size, 0, #[], rfl, Nat.le_refl _, heap_alloc_new w _, Nat.le_refl _, Nat.zero_le _, rfl, rfl⟩⟩
  have hcs := (hA.next hb1 (Nat.le_refl _)).cells
  have HOWN := Lib.hid hown
  have HCS := Lib.hid hcs
  have HB1 := Lib.hid hb1
  have HM := Lib.hid hm
  have HSZ : Hid ((w.alloc (.cells #[] 2)).heap.size = w.heap.size + 1) := Lib.hid (World.size_alloc _ _)
  have q22 : (binOp .eql 38 (.slice (some ⟨b, o, none⟩) m cap) (.slice none 0 0)).run Tryd.prog w = .ok (.bool false) w := Lib.run_eql_slice_nil w _ _ _ m cap 0 0 Tryd.underlying38
  clear hA hb1 hown hcs hm
  go_enter Tryd.func38, Tryd.ntmps38
  go_wp2_with (at_builtin; refine wpList_OwnP rfl (.tmp 5) (.tmp 6) rfl w.heap.size _ [] rfl HOWN.out ⟨b, o, none⟩ m cap ps rfl HM.out HCS.out m (by simp) (by omega) (by rw [HSZ.out]; omega) ?_; intro a3 c3 w3 hO3 hG3; refine Hid.out ?_)
  refine Lib.hid ?_
  have HB3 := Lib.hid (HB1.out.grown hG3 (by rw [HSZ.out]; omega) (fun r e => by cases e; exact Nat.le_refl _))
  have HO3 := Lib.hid hO3
  clear hO3 hG3
  go_wp2
  go_ret
  exact ⟨⟨a3, c3, rfl, HO3.out⟩, HB3.out⟩
end Go.Proofs.YthlpigffjbhmoaaDoor
