/- The walk of the statement ShaPlays. -/
import Derived.Test.YtkhhejkemkldgaaDoorPState
set_option linter.unusedVariables false
set_option linter.unusedSimpArgs false
namespace Go.Proofs.YtkhhejkemkldgaaDoor
open Go.RowKit Go.Shelf
namespace Plays
theorem keeps_own {base S : Nat} {W X : World} {a : Option Addr} {n c : Nat} {ys : List Int} (h : Own8 base W (.slice a n c) ys) (hne : ∀ k, (Value.slice a n c).ownBlock = some k → k ≠ S) (hX : KeepsC S W X) : Bys8 W.heap.size X (.slice a n c) ys := by
  refine ⟨h.1, ?_⟩
  rcases h.2.2 with ⟨e, e2⟩ | ⟨g, cap, cur, e, hg, hb, hn, hm, hs, ht⟩
  · cases e; exact .inl ⟨List.eq_nil_of_length_eq_zero e2, none, 0, rfl⟩
  · cases e
    have hx := hX.at_ (T := 5) hb (hne g rfl)
    refine .inr ⟨g, 0, c, rfl, (Array.getElem?_eq_some_iff.1 hb).1, fun j hj => ?_⟩
    have e1 := vals8_get ys j hj
    rw [← ht, Nat.mul_one, List.getElem?_take_of_lt hj] at e1
    rw [Nat.zero_add, hx.cell]
    simpa using e1
/-- The cells of a row that is no longer read. -/
def BRow (base S : Nat) (v5 v6 : Value) (o : Option (Nat × List Int)) (ab : Option Addr) (n : Nat) (W : World) : Prop :=
  0 < n → ∃ g cur, ab = some ⟨g, 0, none⟩ ∧ base ≤ g ∧ Free S v5 v6 o g ∧ At 5 W g cur ∧ ∀ j, j < n → ∃ y, cur[j]? = some (.int .u8 y) ∧ 0 ≤ y ∧ y < 256
theorem brow_own {base S : Nat} {v5 v6 : Value} {o : Option (Nat × List Int)} {ab : Option Addr} {n c : Nat} {W : World} {ys : List Int} (h : Own8 base W (.slice ab n c) ys) (hf : ∀ k, (Value.slice ab n c).ownBlock = some k → Free S v5 v6 o k) : BRow base S v5 v6 o ab n W := fun h0 => by
  obtain ⟨g, rfl, hg, _⟩ := h.at_ h0
  obtain ⟨cur, hA, _, hn, hc⟩ := own_at h
  exact ⟨g, cur, rfl, hg, hf g rfl, hA, fun j hj => ⟨_, hc j (by omega), h.1 _ (by simp [List.getD, show j < ys.length by omega]) |>.1, (h.1 _ (by simp [List.getD, show j < ys.length by omega])).2⟩⟩
theorem free_app {S : Nat} {v5 v5' v6 : Value} {o : Option (Nat × List Int)} {R n : Nat} (h : Free S v5 v6 o R) (hv : v5'.ownBlock = v5.ownBlock ∨ v5'.ownBlock = some n) (hR : R < n) : Free S v5' v6 o R :=
  ⟨h.1, fun e => by
    rcases hv with k | k <;> rw [k] at e
    · exact h.2.1 e
    · injection e with e; omega, h.2.2⟩
set_option maxRecDepth 100000 in
set_option maxHeartbeats 4000000 in
theorem plays_yes (a : Option Addr) (len cap : Nat) (K : Nat → Int) (A : Nat → Option Addr) (c : Nat → Nat) (X : Nat → List Int) (hl : len ≤ 60) (htt : tot X len ≤ 4000) (w : World) (hT : Tabs w) (h : OpsAt w.heap.size w a len K A c X) :
    Calls Tryd.prog 3 #[.slice a len cap] w fun e w' => e = .returned (.bool true) ∧ Below w.heap.size w w' := by
  have hg := great_short w.heap.size a len cap K A c X hl w h
  rw [show decide (4000 < tot X len) = false from by simp; omega] at hg
  have HO := Lib.hid h
  have HTM := Lib.hid (fun k (hk : k ≤ len) => tot_mono X k len hk)
  have lt1 := hT.lt
  have B0 : Below w.heap.size w (w.alloc (.cells (shaC [0, 0, 0, 0, 0, 0, 0, 0] (fun _ => 0) 0) 32)) := (Below.refl _ w).alloc (Nat.le_refl _) _
  have P0 := Lib.hid (show PS w w.heap.size (.slice none 0 0) (.slice none 0 0) [] [] none (w.alloc (.cells (shaC [0, 0, 0, 0, 0, 0, 0, 0] (fun _ => 0) 0) 32)) from ⟨hT.alloc _, lt1, Nat.le_refl _, shaAt_zero (show ShaIn (w.alloc (.cells (shaC [0, 0, 0, 0, 0, 0, 0, 0] (fun _ => 0) 0) 32)) w.heap.size _ _ _ from At.new _ w _), Own8.nil _ _, (fun e => by cases e), B0, trivial⟩)
  clear hT h B0
  go_enter Tryd.func3, Tryd.ntmps3
  go_wp2_with fail
  refine hg.mono ?_
  rintro e _ ⟨rfl, rfl⟩
  clear hg
  go_wp2_with (refine build_sha rfl rfl ?_)
  generalize w.alloc (.cells (shaC [0, 0, 0, 0, 0, 0, 0, 0] (fun _ => 0) 0) 32) = w0 at *
  obtain ⟨S, hS⟩ : ∃ S, w.heap.size = S := ⟨_, rfl⟩
  have P0' := Lib.hid (show PS w S (.slice none 0 0) (.slice none 0 0) [] [] none w0 from hS ▸ P0.out)
  rw [hS]
  clear P0 hS
  go_loopw [4, 5, 6, 16] (fun v4 v5 v6 iv wr => ∃ (k : Nat) (al : List Int) (a5 : Option Addr) (c5 : Nat) (o : Option (Nat × List Int)), k ≤ len ∧ iv = .int .i64 k ∧ v4 = oldPtr o ∧ v5 = .slice a5 al.length c5 ∧ al.length ≤ tot X k ∧ PS w S (.slice a5 al.length c5) v6 al al o wr) (fun _ _ _ iv _ => len - (intOf iv).toNat)
  case atStart => exact ⟨0, [], none, 0, none, Nat.zero_le _, rfl, rfl, rfl, Nat.zero_le _, P0'.out⟩
  case round =>
    clear P0'
    obtain ⟨k, al, a5, c5, o, hk, rfl, rfl, rfl, hal, hP⟩ := hrel
    obtain ⟨wo, rfl⟩ : ∃ wo : World, wo = wr := ⟨_, rfl⟩
    have HP := Lib.hid hP
    have ht := HTM.out k hk
    by_cases hlt : k < len
    · have htn : tot X k + (X k).length ≤ 4000 := Nat.le_trans (HTM.out (k + 1) hlt) htt
      have HTS : Hid (tot X (k + 1) = tot X k + (X k).length) := Lib.hid rfl
      have hki : (k : Int) < len := by omega
      obtain ⟨b, off, rfl, hbl, h1w, h2w, h3w, h4w, _⟩ := HO.out k hlt
      generalize X k = ys at *
      generalize A k = Ak at *
      generalize c k = ck at *
      generalize K k = kk at *
      have hsw : w.heap.size ≤ wo.heap.size := hP.len.size
      have hal1 : Below wo.heap.size wo (wo.alloc (.cells #[] 5)) := (Below.refl _ wo).alloc (Nat.le_refl _) _
      have D1 := hP.len.trans (hal1.mono hsw)
      have h2a := (D1.cell (p := ⟨b, off + k * 2 + 1, none⟩) hbl).trans h2w
      have h3a := h3w.below D1
      have H1 := Lib.hid h1w
      have H2 := Lib.hid h2w
      have H3 := Lib.hid h3w
      have HAL := Lib.hid hal1
      have HALL := Lib.hid hal
      have H4 := Lib.hid h4w
      have HF := Lib.hid (fun R (hR : wo.heap.size ≤ R) => hP.free R hR)
      have lens := Lib.hid (And.intro hal htn)
      have hyl : ys.length ≤ 4000 := by omega
      clear h1w h2w h3w hal1 D1 hP hal h4w htn ht
      by_cases e0 : kk = 0
      · subst e0
        go_wp2_with (first
          | (at_builtin; refine wpList_bapp8d rfl (.tmp 19) (.tmp 24) rfl wo.heap.size (.slice (some ⟨wo.heap.size, 0, none⟩) 0 0) [] rfl (Own8.empty wo) w.heap.size Ak ys.length ck ys rfl h3a (by simp; omega) (by simp) ?_; intro ab cb w1 hOb hBb hGb hDb; rw [List.nil_append] at hOb hDb; rw [List.nil_append]; have hB1 : Below wo.heap.size wo w1 := HAL.out.trans hBb; have P1 := HP.out.below hB1; have h1b := (P1.len.cell (p := ⟨b, off + k * 2, none⟩) hbl).trans H1.out)
          | fail)
        have HOB := Lib.hid hOb
        have HP1 := Lib.hid P1
        have hs1 := hB1.size
        clear hOb hBb hGb hDb hB1 P1 h1b h2a h3a

        obtain ⟨al2, ha2⟩ : ∃ l, al ++ ys = l := ⟨_, rfl⟩
        have HA2 := Lib.hid ha2
        have hl2 : al2.length ≤ 4000 := by rw [← ha2, List.length_append]; have := lens.out; omega
        have hfr := fun R (hR : (Value.slice ab ys.length cb).ownBlock = some R) => HF.out R (HOB.out.row R hR)
        have HFR := Lib.hid hfr
        have hml : al.length + ys.length ≤ 10000000000000 := by have := lens.out; omega
        refine (write_any S al ys ab cb (by have := HP1.out.2.1; have := HP1.out.2.2.1; omega) (by have := lens.out; omega) HOB.out.cap w1 HP1.out.1 HP1.out.2.2.2.1 (fun X' hX => keeps_own HOB.out (fun k hk => (HFR.out k hk).1) hX) HOB.out.1).mono ?_
        rintro e w2 ⟨rfl, hS2, hG2⟩
        rw [ha2] at hS2
        have P2 := HP1.out.write hS2 hG2
        have O2 := Lib.hid (own_row HOB.out hG2 (fun k hk e => (HFR.out k hk).1 (by injection e with e; exact e.symm)))
        have h2c := (P2.len.cell (p := ⟨b, off + k * 2 + 1, none⟩) hbl).trans H2.out
        have h3c := H3.out.below P2.len
        have hs2 := hG2.size
        have hsz : w.heap.size ≤ w2.heap.size := by omega
        have HP2 := Lib.hid P2
        have hown5 := P2.2.2.2.2.1
        clear hS2 hG2 P2 hfr ha2
        go_wp2_with (first
          | (at_builtin; refine wpList_bapp8d rfl (.tmp 36) (.tmp 41) rfl w.heap.size _ al rfl hown5 w.heap.size Ak ys.length ck ys rfl h3c hml hsz ?_; intro a3 c3 w3 hO3 hB3 hG3 hD3; rw [HA2.out] at hO3 hD3; rw [HA2.out])
          | fail)
        have P3 := Lib.hid (HP2.out.app hO3 hG3 hB3 hD3)
        have hlt2 : ∀ k, (Value.slice ab ys.length cb).ownBlock = some k → k < w2.heap.size := fun k hk => (O2.out.2.lt k hk).2
        have R3 := Lib.hid (brow_own (own_row O2.out hG3 (fun k hk e => (HFR.out k hk).2.1 e)) (fun k hk => free_app (HFR.out k hk) hD3 (hlt2 k hk)))
        clear hO3 hB3 hG3 hD3 hlt2 HP2 O2 h2c h3c hown5 HP1 HOB HFR hml hsz
        go_loopw [45] (fun iv wj => ∃ j : Nat, j ≤ ys.length ∧ iv = .int .i64 j ∧ PS w S (.slice a3 al2.length c3) u6 al2 al2 o wj ∧ BRow wo.heap.size S (.slice a3 al2.length c3) u6 o ab ys.length wj) (fun iv _ => ys.length - (intOf iv).toNat)
        case atStart => exact ⟨0, Nat.zero_le _, rfl, P3.out, R3.out⟩
        case round =>
          clear P3 R3
          obtain ⟨j, hj, rfl, hPj, hRj⟩ := hrel
          by_cases hjl : j < ys.length
          · obtain ⟨g, cur, rfl, hgb, hgf, hgA, hgc⟩ := hRj (by omega)
            obtain ⟨y, hy, hy0, hy1⟩ := hgc j hjl
            have hcell : wr.cell? ⟨g, j, none⟩ = some (.int .u8 y) := (hgA.cell j).trans hy
            have hfrz := hgA.free j
            have hji : (j : Int) < ys.length := by omega
            have PJ := Lib.hid hPj
            have GA := Lib.hid hgA
            have GC := Lib.hid hgc
            have GF := Lib.hid hgf
            have HY := Lib.hid hy
            clear hPj hRj hgA hgc hgf hy
            go_wp2_with fail
            go_roundw
            case rel =>
              refine ⟨j + 1, by omega, by go_num, PJ.out.row g GF.out (by have := PJ.out.2.1; omega) (by omega) (grown_setCell _ _ _ _), fun _ => ⟨g, _, rfl, hgb, GF.out, GA.out.set j _, fun i hi => ?_⟩⟩
              rw [Array.getElem?_setIfInBounds]
              by_cases hij : j = i
              · subst hij
                rw [if_pos rfl, if_pos (Array.getElem?_eq_some_iff.1 HY.out).1]
                exact ⟨_, rfl, by omega, by omega⟩
              · rw [if_neg hij]; exact GC.out i hi
            case measure => simp [intOf]; omega
          · have PJ := Lib.hid hPj
            clear hPj hRj
            go_wp2_with fail
            refine (len_any S al2 wr PJ.out.2.2.2.1).mono ?_
            rintro e _ ⟨rfl, rfl⟩
            have hll : al2.length ≤ 4000 := hl2
            go_wp2_with fail
            go_roundw
            case rel => exact ⟨k + 1, al2, a3, c3, o, by omega, by go_num, rfl, rfl, by rw [HTS.out]; have := lens.out; have := HA2.out; rw [← HA2.out, List.length_append]; omega, PJ.out⟩
            case measure => simp [intOf]; omega
      by_cases e1 : kk = 1
      · subst e1
        go_wp2_with (first
          | (at_builtin; refine wpList_bapp8d rfl (.tmp 19) (.tmp 24) rfl wo.heap.size (.slice (some ⟨wo.heap.size, 0, none⟩) 0 0) [] rfl (Own8.empty wo) w.heap.size Ak ys.length ck ys rfl h3a (by simp; omega) (by simp) ?_; intro ab cb w1 hOb hBb hGb hDb; rw [List.nil_append] at hOb hDb; rw [List.nil_append]; have hB1 : Below wo.heap.size wo w1 := HAL.out.trans hBb; have P1 := HP.out.below hB1; have h1b := (P1.len.cell (p := ⟨b, off + k * 2, none⟩) hbl).trans H1.out)
          | fail)
        have HOB := Lib.hid hOb
        have HP1 := Lib.hid P1
        have hs1 := hB1.size
        clear hOb hBb hGb hDb hB1 P1 h1b h2a h3a

        have hal4 : al.length ≤ 4000 := by have := lens.out; omega
        have HS1 := Lib.hid (sum_any S al (by omega) w1 HP1.out.1 HP1.out.2.2.2.1)
        have HDO := Lib.hid (fun (W : World) (hP : PS w S (.slice a5 al.length c5) u6 al al o W) => dof_any a5 al c5 (by omega) W hP.2.2.2.2.1.bys)
        obtain ⟨Tg, hTg⟩ : ∃ Tg, sha al = Tg := ⟨_, rfl⟩
        rw [hTg] at HS1 HDO
        clear hTg
        have he := eq_hash (bf Tg)
        refine HS1.out.mono ?_
        rintro e w2 ⟨rfl, hB2⟩
        have HP2 := Lib.hid (HP1.out.below hB2)
        have HD2 := Lib.hid (HDO.out w2 HP2.out)
        clear hB2 HS1 HP1 HDO
        go_wp2_with fail
        refine HD2.out.mono ?_
        rintro e w3 ⟨rfl, hB3⟩
        have HP3 := Lib.hid (HP2.out.below hB3)
        clear hB3 HP2 HD2

        go_wp2_with fail
        refine (len_any S al w3 HP3.out.2.2.2.1).mono ?_
        rintro e _ ⟨rfl, rfl⟩
        have hll : al.length ≤ 4000 := hal4
        go_wp2_with fail
        go_roundw
        case rel => exact ⟨k + 1, al, a5, c5, o, by omega, by go_num, rfl, rfl, by rw [HTS.out]; have := lens.out; omega, HP3.out⟩
        case measure => simp [intOf]; omega
      by_cases e2 : kk = 2
      · subst e2
        go_wp2_with (first
          | (at_builtin; refine wpList_bapp8d rfl (.tmp 19) (.tmp 24) rfl wo.heap.size (.slice (some ⟨wo.heap.size, 0, none⟩) 0 0) [] rfl (Own8.empty wo) w.heap.size Ak ys.length ck ys rfl h3a (by simp; omega) (by simp) ?_; intro ab cb w1 hOb hBb hGb hDb; rw [List.nil_append] at hOb hDb; rw [List.nil_append]; have hB1 : Below wo.heap.size wo w1 := HAL.out.trans hBb; have P1 := HP.out.below hB1; have h1b := (P1.len.cell (p := ⟨b, off + k * 2, none⟩) hbl).trans H1.out)
          | fail)
        have HOB := Lib.hid hOb
        have HP1 := Lib.hid P1
        have hs1 := hB1.size
        clear hOb hBb hGb hDb hB1 P1 h1b h2a h3a

        have hal4 : al.length ≤ 4000 := by have := lens.out; omega
        refine (copy_any S al w1 HP1.out.2.2.2.1).mono ?_
        rintro e w2 ⟨rfl, hS2, hB2, hz2⟩
        have HP2 := Lib.hid (HP1.out.below hB2)
        have HS2 := Lib.hid hS2
        have hSl := Lib.hid HP1.out.2.2.2.1.lt
        have hOl := Lib.hid HP1.out.2.2.2.2.1.2.lt
        have hs2 := hB2.size
        have hal2 : Below w2.heap.size w2 (w2.alloc (.cells #[] 5)) := (Below.refl _ w2).alloc (Nat.le_refl _) _
        have P2a := HP2.out.below hal2
        have hsrc := P2a.2.2.2.2.1.bys
        have HAL2 := Lib.hid hal2
        generalize hOO : w1.heap.size = O at *
        clear hS2 hB2 hal2 P2a
        go_wp2_with (first
          | (at_builtin; refine wpList_bapp8d rfl (.tmp 68) (.tmp 69) rfl w2.heap.size (.slice (some ⟨w2.heap.size, 0, none⟩) 0 0) [] rfl (Own8.empty w2) _ a5 al.length c5 al rfl hsrc (by simp; omega) (by simp) ?_; intro a6 c6 w3 hO6 hB3 hG3 hD3; rw [List.nil_append] at hO6 hD3; rw [List.nil_append])
          | fail)
        have B23 := HAL2.out.trans hB3
        have P3 := HP2.out.below B23
        have HP3 := Lib.hid (show PS w S (.slice a5 al.length c5) (.slice a6 al.length c6) al al (some (O, al)) w3 from ⟨P3.1, P3.2.1, P3.2.2.1, P3.2.2.2.1, P3.2.2.2.2.1, P3.2.2.2.2.2.1, P3.2.2.2.2.2.2.1, by omega, by have := hSl.out; omega, HS2.out.below B23 HS2.out.lt, hO6.le (by omega), (fun k h5 h6 => by have := (hOl.out k h5).2; have := hO6.row k h6; omega), (fun e => by have := (hOl.out O e).2; omega), (fun e => by have := hO6.row S e; have := hSl.out; omega), (fun e => by have := hO6.row O e; omega), hal4⟩)
        clear hO6 hB3 hG3 hD3 B23 P3 HP2 HS2 hSl hOl HP1 hsrc HAL2
        rw [show Value.pointer (some ⟨O, 0, none⟩) = oldPtr (some (O, al)) from rfl]

        go_wp2_with fail
        refine (len_any S al w3 HP3.out.2.2.2.1).mono ?_
        rintro e _ ⟨rfl, rfl⟩
        have hll : al.length ≤ 4000 := hal4
        go_wp2_with fail
        go_roundw
        case rel => exact ⟨k + 1, al, a5, c5, (some (O, al)), by omega, by go_num, rfl, rfl, by rw [HTS.out]; have := lens.out; omega, HP3.out⟩
        case measure => simp [intOf]; omega
      have k0 : (kk == 0) = false := by simpa using e0
      have k1 : (kk == 1) = false := by simpa using e1
      have k2 : (kk == 2) = false := by simpa using e2

      go_wp2_with (first
        | (at_builtin; refine wpList_bapp8d rfl (.tmp 19) (.tmp 24) rfl wo.heap.size (.slice (some ⟨wo.heap.size, 0, none⟩) 0 0) [] rfl (Own8.empty wo) w.heap.size Ak ys.length ck ys rfl h3a (by simp; omega) (by simp) ?_; intro ab cb w1 hOb hBb hGb hDb; rw [List.nil_append] at hOb hDb; rw [List.nil_append]; have hB1 : Below wo.heap.size wo w1 := HAL.out.trans hBb; have P1 := HP.out.below hB1; have h1b := (P1.len.cell (p := ⟨b, off + k * 2, none⟩) hbl).trans H1.out)
        | fail)
      have HOB := Lib.hid hOb
      have HP1 := Lib.hid P1
      have hs1 := hB1.size
      clear hOb hBb hGb hDb hB1 P1 h1b h2a h3a

      have hal4 : al.length ≤ 4000 := by have := lens.out; omega

      refine (len_any S al w1 HP1.out.2.2.2.1).mono ?_
      rintro e _ ⟨rfl, rfl⟩
      have hll : al.length ≤ 4000 := hal4
      go_wp2_with fail
      go_roundw
      case rel => exact ⟨k + 1, al, a5, c5, o, by omega, by go_num, rfl, rfl, by rw [HTS.out]; have := lens.out; omega, HP1.out⟩
      case measure => simp [intOf]; omega
    · obtain rfl : k = len := by omega
      cases o with
      | none =>
        rw [show oldPtr none = Value.pointer none from rfl]
        have HPW := HP
        have hal4 : al.length ≤ 4000 := by omega
        have HS1 := Lib.hid (sum_any S al (by omega) wo HPW.out.1 HPW.out.2.2.2.1)
        have HDO := Lib.hid (fun (W : World) (hP : PS w S (.slice a5 al.length c5) u6 al al none W) => dof_any a5 al c5 (by omega) W hP.2.2.2.2.1.bys)
        have HOF := Lib.hid (fun (W : World) (hP : PS w S (.slice a5 al.length c5) u6 al al none W) => of_any a5 al c5 (by omega) hP.2.2.2.2.1.cap W hP.1 hP.2.2.2.2.1.bys)
        obtain ⟨Tg, hTg⟩ : ∃ Tg, sha al = Tg := ⟨_, rfl⟩
        rw [hTg] at HS1 HDO HOF
        clear hTg
        have he := eq_hash (bf Tg)
        go_wp2_with fail
        refine HS1.out.mono ?_
        rintro e w5 ⟨rfl, hB5⟩
        have HP5 := Lib.hid (HPW.out.below hB5)
        have HD5 := Lib.hid (HDO.out w5 HP5.out)
        clear hB5 HS1
        go_wp2_with fail
        refine HD5.out.mono ?_
        rintro e w6 ⟨rfl, hB6⟩
        have HP6 := Lib.hid (HP5.out.below hB6)
        have HD6 := Lib.hid (HOF.out w6 HP6.out)
        clear hB6 HD5
        go_wp2_with fail
        refine HD6.out.mono ?_
        rintro e w7 ⟨rfl, hB7⟩
        have HP7 := Lib.hid (HP6.out.below hB7)
        have HD7 := Lib.hid (HDO.out w7 HP7.out)
        clear hB7 HD6
        go_wp2_with fail
        refine HD7.out.mono ?_
        rintro e w8 ⟨rfl, hB8⟩
        have HP8 := Lib.hid (HP7.out.below hB8)
        clear hB8 HD7 HDO HOF
        go_wp2
        go_ret
        exact ⟨rfl, HP8.out.len⟩
      | some p =>
        obtain ⟨O, ws⟩ := p
        rw [show oldPtr (some (O, ws)) = Value.pointer (some ⟨O, 0, none⟩) from rfl]
        obtain ⟨p1, p2, p3, p4, p5, p6, p7, p8, p9⟩ := HP.out.2.2.2.2.2.2.2
        obtain ⟨a6, c6, rfl⟩ := p4.form
        have hc1 := conv_lit wo.heap.size wo rfl #[.int .u8 109, .int .u8 111, .int .u8 114, .int .u8 101] 4 rfl
        have hBL : Below wo.heap.size wo (wo.alloc (.cells #[.int .u8 109, .int .u8 111, .int .u8 114, .int .u8 101] 5 (4, 5))) := (Below.refl _ wo).alloc (Nat.le_refl _) _
        have HL := Lib.hid (show (wo.alloc (.cells #[.int .u8 109, .int .u8 111, .int .u8 114, .int .u8 101] 5 (4, 5))).heap[wo.heap.size]? = some (.cells (vals8 [109, 111, 114, 101]).toArray 5 (4, 5)) from heap_alloc_new wo _)
        have PL := Lib.hid (HP.out.below hBL)
        have QL := Lib.hid (p3.below hBL p3.lt)
        have Ol := Lib.hid p3.lt
        have LZ := Lib.hid (show wo.heap.size < (wo.alloc (.cells #[.int .u8 109, .int .u8 111, .int .u8 114, .int .u8 101] 5 (4, 5))).heap.size from by simp)
        have Q5 := Lib.hid p5
        have Q7 := Lib.hid p7
        have hws := p9
        clear hBL p3 p4 p5 p6 p7 p8
        go_wp2_with fail
        clear hc1
        refine (write_any O ws [109, 111, 114, 101] (some ⟨wo.heap.size, 0, none⟩) 4 (by have := PL.out.2.1; omega) (by simp; omega) (by decide) _ PL.out.1 QL.out (fun X' hX => lit_of [109, 111, 114, 101] (by decide) (hX.same wo.heap.size _ (by have := Ol.out; omega) HL.out rfl) LZ.out) (show ∀ x ∈ [(109 : Int), 111, 114, 101], 0 ≤ x ∧ x < 256 from by decide)).mono ?_
        rintro e w1 ⟨rfl, hS1, hG1⟩
        obtain ⟨P1, O1⟩ := PL.out.writeOld hG1
        have HP1 := Lib.hid P1
        have HO1 := Lib.hid O1
        obtain ⟨ms, hms⟩ : ∃ l, ws ++ [109, 111, 114, 101] = l := ⟨_, rfl⟩
        have hml : ms.length = ws.length + 4 := by rw [← hms]; simp
        rw [hms] at hS1
        have HMS := Lib.hid hms
        have HML := Lib.hid hml
        have SM := Lib.hid (sum_any O ms (by omega) w1 P1.1 hS1)
        have HDO := Lib.hid (fun (W : World) (A : Option Addr) (cc : Nat) (hb : Bys8 W.heap.size W (.slice A ms.length cc) ms) => dof_any A ms cc (by omega) W hb)
        obtain ⟨Th, hTh⟩ : ∃ Th, sha ms = Th := ⟨_, rfl⟩
        rw [hTh] at SM HDO
        have he := eq_hash (bf Th)
        clear hTh hS1 hG1 P1 O1 PL QL HL LZ Ol hms hml
        go_wp2_with fail
        refine SM.out.mono ?_
        rintro e w2 ⟨rfl, hB2⟩
        have HP2 := Lib.hid (HP1.out.below hB2)
        have HO2 := Lib.hid (HO1.out.below hB2 (Nat.le_refl _))
        have hc2 := conv_lit w2.heap.size w2 rfl #[.int .u8 109, .int .u8 111, .int .u8 114, .int .u8 101] 4 rfl
        have hBL : Below w2.heap.size w2 (w2.alloc (.cells #[.int .u8 109, .int .u8 111, .int .u8 114, .int .u8 101] 5 (4, 5))) := (Below.refl _ w2).alloc (Nat.le_refl _) _
        have hlit : Bys8 (w2.heap.size + 1) (w2.alloc (.cells #[.int .u8 109, .int .u8 111, .int .u8 114, .int .u8 101] 5 (4, 5))) (.slice (some ⟨w2.heap.size, 0, none⟩) 4 4) [109, 111, 114, 101] := lit_of [109, 111, 114, 101] (by decide) (heap_alloc_new w2 _) (by omega)
        have hO3 := HO2.out.below hBL (Nat.le_refl _)
        have HP3 := Lib.hid (HP2.out.below hBL)
        have hml4 : ws.length + [(109 : Int), 111, 114, 101].length ≤ 10000000000000 := by simp; omega
        have hsz3 := HP3.out.len.size
        have hr6 := Lib.hid (fun k (hk : (Value.slice a6 ws.length c6).ownBlock = some k) => hO3.row k hk)
        clear hB2 HP1 HO1 HP2 HO2 hBL SM
        go_wp2_with (first
          | (at_builtin; refine wpList_bapp8d rfl (.tmp 86) (.tmp 88) rfl w.heap.size _ ws rfl hO3 _ (some ⟨w2.heap.size, 0, none⟩) 4 4 [109, 111, 114, 101] rfl hlit hml4 hsz3 ?_; intro a7 c7 w3 hO7 hB3 hG3 hD3; rw [HMS.out] at hO7 hD3; rw [HMS.out])
          | fail)
        have HP4 := Lib.hid (HP3.out.app6 hG3 hB3 Q7.out Q5.out hr6.out)
        have HD4 := Lib.hid (HDO.out w3 a7 c7 hO7.bys)
        clear hO7 hB3 hG3 hD3 HP3 hO3 hlit hml4 hsz3 hc2 hr6 HDO
        go_wp2_with fail
        refine HD4.out.mono ?_
        rintro e w4 ⟨rfl, hB4⟩
        have HPW := Lib.hid (HP4.out.below hB4)
        clear hB4 HD4 HP4
        have heh := he
        clear he
        have hal4 : al.length ≤ 4000 := by omega
        have HS1 := Lib.hid (sum_any S al (by omega) w4 HPW.out.1 HPW.out.2.2.2.1)
        have HDO := Lib.hid (fun (W : World) (hP : PS w S (.slice a5 al.length c5) (.slice a6 ws.length c6) al al none W) => dof_any a5 al c5 (by omega) W hP.2.2.2.2.1.bys)
        have HOF := Lib.hid (fun (W : World) (hP : PS w S (.slice a5 al.length c5) (.slice a6 ws.length c6) al al none W) => of_any a5 al c5 (by omega) hP.2.2.2.2.1.cap W hP.1 hP.2.2.2.2.1.bys)
        obtain ⟨Tg, hTg⟩ : ∃ Tg, sha al = Tg := ⟨_, rfl⟩
        rw [hTg] at HS1 HDO HOF
        clear hTg
        have he := eq_hash (bf Tg)
        go_wp2_with fail
        refine HS1.out.mono ?_
        rintro e w5 ⟨rfl, hB5⟩
        have HP5 := Lib.hid (HPW.out.below hB5)
        have HD5 := Lib.hid (HDO.out w5 HP5.out)
        clear hB5 HS1
        go_wp2_with fail
        refine HD5.out.mono ?_
        rintro e w6 ⟨rfl, hB6⟩
        have HP6 := Lib.hid (HP5.out.below hB6)
        have HD6 := Lib.hid (HOF.out w6 HP6.out)
        clear hB6 HD5
        go_wp2_with fail
        refine HD6.out.mono ?_
        rintro e w7 ⟨rfl, hB7⟩
        have HP7 := Lib.hid (HP6.out.below hB7)
        have HD7 := Lib.hid (HDO.out w7 HP7.out)
        clear hB7 HD6
        go_wp2_with fail
        refine HD7.out.mono ?_
        rintro e w8 ⟨rfl, hB8⟩
        have HP8 := Lib.hid (HP7.out.below hB8)
        clear hB8 HD7 HDO HOF
        go_wp2
        go_ret
        exact ⟨rfl, HP8.out.len⟩
theorem plays_far (a : Option Addr) (len cap : Nat) (K : Nat → Int) (A : Nat → Option Addr) (c : Nat → Nat) (X : Nat → List Int) (hfar : ¬ (len ≤ 60 ∧ tot X len ≤ 4000)) (w : World) (h : OpsAt w.heap.size w a len K A c X) :
    Calls Tryd.prog 3 #[.slice a len cap] w fun e w' => e = .returned (.bool true) ∧ Below w.heap.size w w' := by
  have hg : Calls Tryd.prog 8 #[.slice a len cap] w fun e w' => e = .returned (.bool true) ∧ w = w' := by
    by_cases hl : len ≤ 60
    · have hg := great_short w.heap.size a len cap K A c X hl w h
      rwa [show decide (4000 < tot X len) = true from by simp; omega] at hg
    · exact great_far a len cap (by omega) w
  clear h hfar
  go_enter Tryd.func3, Tryd.ntmps3
  go_wp2_with fail
  refine hg.mono ?_
  rintro e _ ⟨rfl, rfl⟩
  go_wp2
  go_ret
  exact ⟨rfl, Below.refl _ _⟩
theorem plays_any (a : Option Addr) (len cap : Nat) (w : World) (hT : Tabs w) (h : ∃ K A c X, OpsAt w.heap.size w a len K A c X) :
    Calls Tryd.prog 3 #[.slice a len cap] w fun e w' => e = .returned (.bool true) ∧ Below w.heap.size w w' := by
  obtain ⟨K, A, c, X, h⟩ := h
  by_cases hh : len ≤ 60 ∧ tot X len ≤ 4000
  · exact plays_yes a len cap K A c X hh.1 hh.2 w hT h
  · exact plays_far a len cap K A c X hh w h
end Plays
end Go.Proofs.YtkhhejkemkldgaaDoor
