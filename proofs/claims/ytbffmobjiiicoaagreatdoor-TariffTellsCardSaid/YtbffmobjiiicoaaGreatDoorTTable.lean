/- The document's copy of a table of bands. -/
import Derived.Test.YtbffmobjiiicoaaGreatDoorJB4
import Derived.Test.YtbffmobjiiicoaaGreatDoorRRegL
set_option linter.unusedVariables false
set_option linter.unusedSimpArgs false
namespace Go.Proofs.YtbffmobjiiicoaaGreatDoor.B9
open Go.RowKit Go.Shelf
/-- A table's copy. -/
def TabE (P : Nat → Pl) (pl : Nat) (R : Nat → Ru) (rl : Nat) (e : Ending) (W : World) : Prop :=
  ∃ (pa : Option Addr) (pc : Nat) (ra : Option Addr) (rc : Nat) (P' : Nat → Pl), e = .returned (tabV pa pl pc ra rl rc) ∧ PlsAt W.heap.size W pa pl P' ∧ RusAt W.heap.size W ra rl R ∧ ∀ i, (P' i).len = (P i).len ∧ (P' i).L = (P i).L
theorem sizeT (x y : Value) : (Tryz.prog.info? 65).map (·.size) = some (#[x, y] : Array Value).size := by
  have h : (Tryz.prog.info? 65).map (·.size) = some 2 := by kernel_rfl
  exact h
set_option maxRecDepth 100000 in
set_option maxHeartbeats 4000000 in
theorem table_any (pa : Option Addr) (pl pc : Nat) (ra : Option Addr) (rl rc : Nat) (P : Nat → Pl) (R : Nat → Ru) (w : World) (hP : PlsAt w.heap.size w pa pl P) (hR : RusAt w.heap.size w ra rl R) (hlm : pl ≤ 60) (hpm : ∀ i, i < pl → (P i).len ≤ 60) (hrm : rl ≤ 110) :
    Calls Tryz.prog 24 #[tabV pa pl pc ra rl rc] w fun e w' => TabE P pl R rl e w' ∧ Below w.heap.size w w' := by
  obtain ⟨W1, hW1⟩ : ∃ W1, W1 = w.alloc (.cells #[.slice pa pl pc, .slice ra rl rc] 32) := ⟨_, rfl⟩
  obtain ⟨W2, hW2⟩ : ∃ W2, W2 = W1.alloc (.cells #[.slice none 0 0, .slice none 0 0] 65) := ⟨_, rfl⟩
  have hs1 : W1.heap.size = w.heap.size + 1 := by rw [hW1, World.size_alloc]
  have hs2 : W2.heap.size = w.heap.size + 1 + 1 := by rw [hW2, World.size_alloc, hs1]
  have ht1 : W1.heap[w.heap.size]? = some (.cells #[.slice pa pl pc, .slice ra rl rc] 32 (0, 0)) := by rw [hW1]; exact heap_alloc_new w _
  have ht2 : W2.heap[w.heap.size]? = some (.cells #[.slice pa pl pc, .slice ra rl rc] 32 (0, 0)) := by rw [hW2]; exact heap_old ht1 _
  have ht : (W2.alloc (.cells #[.slice none 0 0, .slice none 0 0] 65)).heap[w.heap.size]? = some (.cells #[.slice pa pl pc, .slice ra rl rc] 32 (0, 0)) := heap_old ht2 _
  have hz2 : W2.heap[w.heap.size + 1]? = some (.cells #[.slice none 0 0, .slice none 0 0] 65 (0, 0)) := by rw [hW2, ← hs1]; exact heap_alloc_new W1 _
  have hz : (W2.alloc (.cells #[.slice none 0 0, .slice none 0 0] 65)).heap[w.heap.size + 1]? = some (.cells #[.slice none 0 0, .slice none 0 0] 65 (0, 0)) := heap_old hz2 _
  have hu : (W2.alloc (.cells #[.slice none 0 0, .slice none 0 0] 65)).heap[w.heap.size + 1 + 1]? = some (.cells #[.slice none 0 0, .slice none 0 0] 65 (0, 0)) := by rw [← hs2]; exact heap_alloc_new W2 _
  have hb0 : Below w.heap.size w (W2.alloc (.cells #[.slice none 0 0, .slice none 0 0] 65)) := by
    rw [hW2, hW1]
    exact (((Below.refl _ w).alloc (Nat.le_refl _) _).alloc (by simp) _).alloc (by simp [World.size_alloc]; omega) _
  have HP := Lib.hid hP
  have HR := Lib.hid hR
  have HPM := Lib.hid hpm
  have HT := Lib.hid ht
  have HZ := Lib.hid hz
  have HU := Lib.hid hu
  have HB0 := Lib.hid hb0
  rw [hW2, hW1] at HT HZ HU HB0
  clear ht hz hu ht1 ht2 hz2 hb0 hP hR hpm hs1 hs2 hW2 hW1 W2 W1
  go_enter Tryz.func24, Tryz.ntmps24
  go_wp2_with fail
  go_loopw [4] (fun i wr => ∃ (k : Nat) (va : Option Addr) (vc : Nat) (C : Nat → Option Addr × Nat), k ≤ pl ∧ i = .int .i64 k ∧ wr.heap[w.heap.size]? = some (.cells #[.slice pa pl pc, .slice ra rl rc] 32 (0, 0)) ∧ wr.heap[w.heap.size + 1]? = some (.cells #[.slice none 0 0, .slice none 0 0] 65 (0, 0)) ∧ wr.heap[w.heap.size + 1 + 1]? = some (.cells #[.slice va k vc, .slice none 0 0] 65 (0, 0)) ∧ OwnV (w.heap.size + 1 + 2) wr (.slice va k vc) ((List.range k).map (cpV P C)) ∧ Copies (fun b => b ≤ w.heap.size + 1 + 1 ∨ (Value.slice va k vc).ownBlock = some b) wr P C k ∧ Below w.heap.size w wr) (fun i _ => (pl - intOf i).toNat)
  case atStart => exact ⟨0, none, 0, fun _ => (none, 0), Nat.zero_le _, rfl, HT.out, HZ.out, HU.out, OwnV.nil _ _, fun i hi => absurd hi (Nat.not_lt_zero _), HB0.out⟩
  case round =>
    obtain ⟨k, va, vc, C, hk, rfl, ht, hz, hu, hO, hC, hb⟩ := hrel
    obtain ⟨t0, t1⟩ := cells2t ht
    have hul := (Array.getElem?_eq_some_iff.1 hu).1
    have HTR := Lib.hid ht
    have HZR := Lib.hid hz
    have HUR := Lib.hid hu
    have HO := Lib.hid hO
    have HC := Lib.hid hC
    have HB := Lib.hid hb
    clear ht hz hu hO hC hb HT HZ HU HB0
    by_cases hlt : k < pl
    · have hlti : (k : Int) < pl := by omega
      obtain ⟨b, o, rfl, hbl, c0, ⟨hl1, hl2⟩, hsw⟩ := HP.out.next HB.out (Nat.le_refl _) (Nat.le_refl _) k hlt
      have hpk60 := HPM.out k hlt
      obtain ⟨pka, pkl, pkc, pkL⟩ : ∃ (x : Option Addr) (y z : Nat), (P k).a = x ∧ (P k).len = y ∧ (P k).cap = z := ⟨_, _, _, rfl, rfl, rfl⟩
      rw [pkL.1, pkL.2.1, pkL.2.2] at c0
      rw [pkL.2.1] at hpk60
      rw [pkL.1, pkL.2.1] at hsw
      have HSW := Lib.hid hsw
      have HPK := Lib.hid pkL
      have HC0 := Lib.hid c0
      have hbsz := HB.out.size
      have HBL := Lib.hid hbl
      have HT0 := Lib.hid t0
      clear hsw hl1 hl2 pkL
      obtain ⟨ws, rfl⟩ : ∃ ws : World, ws = wr := ⟨_, rfl⟩
      go_wp2_with fail
      go_loopw [5, 6] (fun v i wr => ∃ m : Nat, m ≤ pkl ∧ i = .int .i64 m ∧ OwnS ws.heap.size wr v ((List.range m).map (P k).L) ∧ Below ws.heap.size ws wr) (fun _ i _ => (pkl - intOf i).toNat)
      case atStart => exact ⟨0, Nat.zero_le _, rfl, OwnS.nil _ _, Below.refl _ _⟩
      case round =>
        obtain ⟨m, hm, rfl, hown, hb⟩ := hrel
        obtain ⟨w2, rfl⟩ : ∃ w2 : World, w2 = wr := ⟨_, rfl⟩
        clear t0 t1 c0
        have hb2s := hb.size
        have q0 := (hb.cell (p := ⟨w.heap.size, 0, none⟩) (show w.heap.size < ws.heap.size by omega)).trans HT0.out
        have qb := (hb.cell (p := ⟨b, o + k, none⟩) (show b < ws.heap.size by have := HBL.out; omega)).trans HC0.out
        have HB2 := Lib.hid hb
        by_cases hlt2 : m < pkl
        · have hlti2 : (m : Int) < pkl := by omega
          obtain ⟨sb, so, rfl, hcr⟩ := ((HSW.out.next (hb.mono (show w.heap.size ≤ ws.heap.size by omega)) (Nat.le_refl _) hbsz).base (by omega))
          obtain ⟨c0, c1⟩ := hcr m hlt2
          obtain ⟨va2, vc2, rfl⟩ := hown.form
          obtain ⟨z, hz⟩ : ∃ z, (P k).L m = z := ⟨_, rfl⟩
          rw [hz] at c0 c1
          have HZ := Lib.hid hz
          have hoa : OwnS ws.heap.size (w2.alloc (.cells #[.int .i64 z.m, .int .i64 z.b] 107)) (.slice va2 ((List.range m).map (P k).L).length vc2) ((List.range m).map (P k).L) := hown.below ((Below.refl w2.heap.size w2).alloc (Nat.le_refl _) _) (Nat.le_refl _)
          have hr := heap_alloc_new w2 (.cells #[.int .i64 z.m, .int .i64 z.b] 107)
          have HOA := Lib.hid hoa
          have hbA := HB2.out.alloc hb2s (.cells #[.int .i64 z.m, .int .i64 z.b] 107)
          have HBA := Lib.hid hbA
          have r0 := cell_of_row _ _ 0 _ _ _ hr
          have r1 := cell_of_row _ _ 1 _ _ _ hr
          have R0 := Lib.hid r0
          have R1 := Lib.hid r1
          have hly : ((List.range m).map (P k).L).length = m := by simp
          have HLY := Lib.hid hly
          clear hown hb hcr hz hoa hr hbA r0 r1
          rw [hly]
          clear hly
          go_wp2_with (first | (at_builtin; refine wpList_bappS rfl (.tmp 25) (.tmp 34) rfl ws.heap.size _ ((List.range m).map (P k).L) rfl (by have := HOA.out; rw [HLY.out] at this; exact this) w2.heap.size z rfl R0.out R1.out (by rw [HLY.out]; omega) (by rw [World.size_alloc]; omega) ?_; intro a2 c2 w3 hO2 hB2))
          rw [show (List.map (P k).L (List.range m) ++ [z]).length = m + 1 by simp] at hO2
          have HO2 := Lib.hid hO2
          have HB3 := Lib.hid (HBA.out.trans hB2)
          clear hO2 hB2
          go_wp2
          go_roundw
          case rel => exact ⟨m + 1, by omega, by go_num, by rw [List.range_succ, List.map_append, List.map_cons, List.map_nil, HZ.out]; exact HO2.out, HB3.out⟩
          case measure => first | (simp [intOf]; done) | (simp [intOf]; omega)
        · have hme : m = pkl := by omega
          subst hme
          obtain ⟨a2, c2, rfl⟩ := hown.form
          have hlm2 : ((List.range m).map (P k).L).length = m := by simp
          rw [hlm2] at hown ⊢
          have hnl : ¬ ((m : Int) < m) := by omega
          have hlw : ((List.range k).map (cpV P C)).length = k := by simp
          have hrw := HO.out.row
          have u2 := (hb.block (w.heap.size + 1 + 1) hul).trans HUR.out
          obtain ⟨u0, u1⟩ := cells2t u2
          have HOA := Lib.hid (show OwnV (w.heap.size + 1 + 2) (w2.alloc (.cells #[.slice a2 m c2] 82)) (.slice va k vc) ((List.range k).map (cpV P C)) from (HO.out.kept (w' := w2) (fun j hj => hb.block j (hrw j hj).2)).kept (fun j hj => Below.heap_alloc w2 _ j (Nat.lt_of_lt_of_le (hrw j hj).2 hb2s)))
          have HCELL := Lib.hid (show (w2.alloc (.cells #[.slice a2 m c2] 82)).cell? ⟨w2.heap.size, 0, none⟩ = some (.slice a2 m c2) from cell_of_row _ _ 0 _ _ _ (heap_alloc_new w2 _))
          have HSTEP := Lib.hid (fun a3 c3 w3 => copies_step (n := w.heap.size + 1) (a3 := a3) (c3 := c3) (w3 := w3) (o := .cells #[.slice a2 m c2] 82) HO.out HC.out HZR.out HUR.out hb hown HPK.out.2.1)
          have HBW := Lib.hid (HB.out.trans (hb.mono hbsz))
          have HTW := Lib.hid ((hb.block w.heap.size (by omega)).trans HTR.out)
          have HLW := Lib.hid hlw
          clear hown hb hlm2 hlw hrw u1 u2
          go_wp2_with (first
                | (at_builtin
                   refine wpList_bappV rfl (.tmp 37) (.tmp 39) rfl (w.heap.size + 1 + 2) _ ((List.range k).map (cpV P C)) rfl HOA.out w2.heap.size (.slice a2 m c2) rfl HCELL.out rfl (k + 1) (by rw [HLW.out]) (by rw [HLW.out]; omega) (by rw [World.size_alloc]; omega) ?_
                   intro a3 c3 w3 hO3 hG3 hN3
                   obtain ⟨s1, s2, s3, s4⟩ := HSTEP.out a3 c3 w3 hO3 hG3 hN3
                   obtain ⟨s5, s6⟩ := s4 (.slice a3 (k + 1) c3)
                   have hrw := HO.out.row
                   have HB3 := Lib.hid (HBW.out.trans ((s3.mono hbsz).trans ((Below.refl w.heap.size _).grown hG3 (by rw [World.size_alloc]; omega) (fun r e => by have := hrw r e; omega))))
                   have HT3 := Lib.hid ((hG3.block w.heap.size (by rw [World.size_alloc]; omega) (fun e => by have := hrw _ e.symm; omega)).trans ((Below.heap_alloc w2 (.cells #[.slice a2 m c2] 82) w.heap.size (by omega)).trans HTW.out))
                   have y0 : w3.cell? ⟨w.heap.size + 1 + 1, 0, none⟩ = some (.slice va k vc) := cell_of_row _ _ 0 _ _ _ s2
                   have yf := frozen_of_row w3 (w.heap.size + 1 + 1) 0 _ _ s2
                   have S1 := Lib.hid s1
                   have S2 := Lib.hid s2
                   have S5 := Lib.hid s5
                   have S6 := Lib.hid s6
                   clear s1 s2 s3 s4 s5 s6 hO3 hG3 hN3 hrw q0 qb u0))
          go_roundw
          case rel => exact ⟨k + 1, a3, c3, putC C k (a2, c2), by omega, by go_num, (heap_setCell_other _ ⟨w.heap.size + 1 + 1, 0, none⟩ w.heap.size _ (by show w.heap.size ≠ w.heap.size + 1 + 1; omega)).trans HT3.out, (heap_setCell_other _ ⟨w.heap.size + 1 + 1, 0, none⟩ (w.heap.size + 1) _ (by show w.heap.size + 1 ≠ w.heap.size + 1 + 1; omega)).trans S1.out, heap_setCell_same _ (w.heap.size + 1 + 1) 0 _ _ _ S2.out, S5.out, S6.out, HB3.out.setCell (p := ⟨w.heap.size + 1 + 1, 0, none⟩) (by show w.heap.size ≤ w.heap.size + 1 + 1; omega) _⟩
          case measure => first | (simp [intOf]; done) | (simp [intOf]; omega)
    · have hke : k = pl := by omega
      subst hke
      have hnl : ¬ ((k : Int) < k) := by omega
      obtain ⟨ws, rfl⟩ : ∃ ws : World, ws = wr := ⟨_, rfl⟩
      go_wp2_with fail
      go_loopw [7] (fun i w2 => ∃ (m : Nat) (xa : Option Addr) (xc : Nat), m ≤ rl ∧ i = .int .i64 m ∧ w2.heap[w.heap.size]? = some (.cells #[.slice pa k pc, .slice ra rl rc] 32 (0, 0)) ∧ w2.heap[w.heap.size + 1]? = some (.cells #[.slice none 0 0, .slice none 0 0] 65 (0, 0)) ∧ w2.heap[w.heap.size + 1 + 1]? = some (.cells #[.slice va k vc, .slice xa m xc] 65 (0, 0)) ∧ OwnU ws.heap.size w2 (.slice xa m xc) ((List.range m).map R) ∧ (ws.heap.size ≤ w2.heap.size ∧ ∀ j, j < ws.heap.size → j ≠ w.heap.size + 1 + 1 → w2.heap[j]? = ws.heap[j]?) ∧ Below w.heap.size w w2) (fun i _ => (rl - intOf i).toNat)
      case atStart => exact ⟨0, none, 0, Nat.zero_le _, rfl, HTR.out, HZR.out, HUR.out, OwnU.nil _ _, ⟨Nat.le_refl _, fun _ _ _ => rfl⟩, HB.out⟩
      case round =>
        obtain ⟨m, xa, xc, hm, rfl, ht2, hz2, hu2, hO, ⟨hks, hkeep⟩, hb⟩ := hrel
        obtain ⟨w2, rfl⟩ : ∃ w2 : World, w2 = wr := ⟨_, rfl⟩
        obtain ⟨y0, y1⟩ := cells2t ht2
        obtain ⟨x0, x1⟩ := cells2t hu2
        have hul2 := (Array.getElem?_eq_some_iff.1 hu2).1
        have HT2 := Lib.hid ht2
        have HZ2 := Lib.hid hz2
        have HU2 := Lib.hid hu2
        have HO2 := Lib.hid hO
        have HKEEP := Lib.hid hkeep
        have HB2 := Lib.hid hb
        clear ht2 hz2 hu2 hO hkeep hb HTR HZR HUR t0 t1
        by_cases hlt2 : m < rl
        · have hlti2 : (m : Int) < rl := by omega
          obtain ⟨b, o, rfl, hbl, c0, c1, c2⟩ := HR.out.next HB2.out (Nat.le_refl _) (Nat.le_refl _) m hlt2
          obtain ⟨r, hr⟩ : ∃ r, R m = r := ⟨_, rfl⟩
          rw [hr] at c0 c1 c2
          have HRR := Lib.hid hr
          obtain ⟨rs, rk, rp⟩ := r
          simp only at c0 c1 c2
          have hbsz := HB2.out.size
          have hmx : Tryz.prog.follows .mixedOrders = true := by kernel_rfl
          have hlm : ((List.range m).map R).length = m := by simp
          have HLM := Lib.hid hlm
          have q1 : w2.drew.cell? ⟨w.heap.size, 1, none⟩ = some (.slice (some ⟨b, o, none⟩) rl rc) ∧ w2.drew.cell? ⟨w.heap.size + 1 + 1, 1, none⟩ = some (.slice xa m xc) ∧ w2.drew.cell? ⟨b, o + m * 3, none⟩ = some (.int .i64 rs) ∧ w2.drew.cell? ⟨b, o + m * 3 + 1, none⟩ = some (.int .i64 rk) ∧ w2.drew.cell? ⟨b, o + m * 3 + 2, none⟩ = some (.int .i64 rp) := ⟨y1, x1, c0, c1, c2⟩
          have hba := (Below.refl w2.heap.size w2).alloc (Nat.le_refl _) (.cells #[.int .i64 rs, .int .i64 rk, .int .i64 rp] 105)
          have q3 : (w2.alloc (.cells #[.int .i64 rs, .int .i64 rk, .int .i64 rp] 105)).cell? ⟨w.heap.size, 1, none⟩ = some (.slice (some ⟨b, o, none⟩) rl rc) ∧ (w2.alloc (.cells #[.int .i64 rs, .int .i64 rk, .int .i64 rp] 105)).cell? ⟨w.heap.size + 1 + 1, 1, none⟩ = some (.slice xa m xc) ∧ (w2.alloc (.cells #[.int .i64 rs, .int .i64 rk, .int .i64 rp] 105)).cell? ⟨b, o + m * 3, none⟩ = some (.int .i64 rs) ∧ (w2.alloc (.cells #[.int .i64 rs, .int .i64 rk, .int .i64 rp] 105)).cell? ⟨b, o + m * 3 + 1, none⟩ = some (.int .i64 rk) ∧ (w2.alloc (.cells #[.int .i64 rs, .int .i64 rk, .int .i64 rp] 105)).cell? ⟨b, o + m * 3 + 2, none⟩ = some (.int .i64 rp) := ⟨(hba.cell (p := ⟨w.heap.size, 1, none⟩) (show w.heap.size < w2.heap.size by omega)).trans y1, (hba.cell (p := ⟨w.heap.size + 1 + 1, 1, none⟩) hul2).trans x1, (hba.cell (p := ⟨b, o + m * 3, none⟩) (show b < w2.heap.size by omega)).trans c0, (hba.cell (p := ⟨b, o + m * 3 + 1, none⟩) (show b < w2.heap.size by omega)).trans c1, (hba.cell (p := ⟨b, o + m * 3 + 2, none⟩) (show b < w2.heap.size by omega)).trans c2⟩
          have hnew := heap_alloc_new w2 (.cells #[.int .i64 rs, .int .i64 rk, .int .i64 rp] 105)
          have HOA := Lib.hid (show OwnU ws.heap.size (w2.alloc (.cells #[.int .i64 rs, .int .i64 rk, .int .i64 rp] 105)) (.slice xa m xc) ((List.range m).map R) from HO2.out.kept (fun j hj => Below.heap_alloc w2 _ j (HO2.out.row j hj).2))
          have N0 := Lib.hid (show (w2.alloc (.cells #[.int .i64 rs, .int .i64 rk, .int .i64 rp] 105)).cell? ⟨w2.heap.size, 0, none⟩ = some (.int .i64 rs) from cell_of_row _ _ 0 _ _ _ hnew)
          have N1 := Lib.hid (show (w2.alloc (.cells #[.int .i64 rs, .int .i64 rk, .int .i64 rp] 105)).cell? ⟨w2.heap.size, 1, none⟩ = some (.int .i64 rk) from cell_of_row _ _ 1 _ _ _ hnew)
          have N2 := Lib.hid (show (w2.alloc (.cells #[.int .i64 rs, .int .i64 rk, .int .i64 rp] 105)).cell? ⟨w2.heap.size, 2, none⟩ = some (.int .i64 rp) from cell_of_row _ _ 2 _ _ _ hnew)
          clear hr hlm hnew y0 x0 x1 c0 c1 c2
          go_wp2_with fail
          clear y1
          refine regionL (fun W => W.cell? ⟨w.heap.size, 1, none⟩ = some (.slice (some ⟨b, o, none⟩) rl rc) ∧ W.cell? ⟨w.heap.size + 1 + 1, 1, none⟩ = some (.slice xa m xc) ∧ W.cell? ⟨b, o + m * 3, none⟩ = some (.int .i64 rs) ∧ W.cell? ⟨b, o + m * 3 + 1, none⟩ = some (.int .i64 rk) ∧ W.cell? ⟨b, o + m * 3 + 2, none⟩ = some (.int .i64 rp)) 10 hmx ?_
          change AnyL _ _ _ _ _ _ _ _ _ w2.drew
          refine takeL (i := 0) (oi := { dst := some 49, op := Go.Op.fieldAddr 65 (Go.Operand.tmp 3) 1, type := 0, pos := "ref.go:37", after := #[], guard := none }) (v := .pointer (some ⟨w.heap.size + 1 + 1, 1, none⟩)) [10] rfl (by kernel_rfl) (by kernel_rfl) (by kernel_rfl) (by kernel_rfl) (fun _ _ _ h => calm_panic h) rfl ?_ q1 ?_
          · intro W hW
            (try dsimp only at hW)
            obtain ⟨h0, h1, h2, h3, h4⟩ := hW
            go_simp
          simp only [Act.put, List.setIfInBounds_toArray, List.set_cons_zero, List.set_cons_succ]
          refine takeL (i := 1) (oi := { dst := some 50, op := Go.Op.load 63 (Go.Operand.tmp 49), type := 63, pos := "ref.go:37", after := #[{ on := 0, ground := Go.Ground.data }], guard := none }) (v := .slice xa m xc) [10] rfl (by kernel_rfl) (by kernel_rfl) (by kernel_rfl) (by kernel_rfl) (fun _ _ _ h => calm_panic h) rfl ?_ q1 ?_
          · intro W hW
            (try dsimp only at hW)
            obtain ⟨h0, h1, h2, h3, h4⟩ := hW
            go_simp
          simp only [Act.put, List.setIfInBounds_toArray, List.set_cons_zero, List.set_cons_succ]
          refine takeL (i := 2) (oi := { dst := some 51, op := Go.Op.fieldAddr 32 (Go.Operand.tmp 1) 1, type := 0, pos := "ref.go:37", after := #[], guard := none }) (v := .pointer (some ⟨w.heap.size, 1, none⟩)) [10] rfl (by kernel_rfl) (by kernel_rfl) (by kernel_rfl) (by kernel_rfl) (fun _ _ _ h => calm_panic h) rfl ?_ q1 ?_
          · intro W hW
            (try dsimp only at hW)
            obtain ⟨h0, h1, h2, h3, h4⟩ := hW
            go_simp
          simp only [Act.put, List.setIfInBounds_toArray, List.set_cons_zero, List.set_cons_succ]
          refine takeL (i := 3) (oi := { dst := some 52, op := Go.Op.load 30 (Go.Operand.tmp 51), type := 30, pos := "ref.go:37", after := #[{ on := 2, ground := Go.Ground.data }], guard := none }) (v := .slice (some ⟨b, o, none⟩) rl rc) [10] rfl (by kernel_rfl) (by kernel_rfl) (by kernel_rfl) (by kernel_rfl) (fun _ _ _ h => calm_panic h) rfl ?_ q1 ?_
          · intro W hW
            (try dsimp only at hW)
            obtain ⟨h0, h1, h2, h3, h4⟩ := hW
            go_simp
          simp only [Act.put, List.setIfInBounds_toArray, List.set_cons_zero, List.set_cons_succ]
          refine takeL (i := 4) (oi := { dst := some 53, op := Go.Op.move (Go.Operand.tmp 7), type := 3, pos := "ref.go:37", after := #[], guard := none }) (v := .int .i64 m) [10] rfl (by kernel_rfl) (by kernel_rfl) (by kernel_rfl) (by kernel_rfl) (fun _ _ _ h => calm_panic h) rfl ?_ q1 ?_
          · intro W hW
            (try dsimp only at hW)
            obtain ⟨h0, h1, h2, h3, h4⟩ := hW
            go_simp
          simp only [Act.put, List.setIfInBounds_toArray, List.set_cons_zero, List.set_cons_succ]
          refine takeL (i := 5) (oi := { dst := some 54, op := Go.Op.indexAddr 30 (Go.Operand.tmp 52) (Go.Operand.tmp 53), type := 0, pos := "ref.go:37", after := #[{ on := 3, ground := Go.Ground.data }, { on := 4, ground := Go.Ground.data }], guard := none }) (v := .pointer (some ⟨b, o + m * 3, none⟩)) [10] rfl (by kernel_rfl) (by kernel_rfl) (by kernel_rfl) (by kernel_rfl) (fun _ _ _ h => calm_panic h) rfl ?_ q1 ?_
          · intro W hW
            (try dsimp only at hW)
            obtain ⟨h0, h1, h2, h3, h4⟩ := hW
            go_simp
          simp only [Act.put, List.setIfInBounds_toArray, List.set_cons_zero, List.set_cons_succ]
          refine takeL (i := 6) (oi := { dst := some 55, op := Go.Op.load 100 (Go.Operand.tmp 54), type := 100, pos := "ref.go:37", after := #[{ on := 5, ground := Go.Ground.data }], guard := none }) (v := .agg #[.int .i64 rs, .int .i64 rk, .int .i64 rp]) [10] rfl (by kernel_rfl) (by kernel_rfl) (by kernel_rfl) (by kernel_rfl) (fun _ _ _ h => calm_panic h) rfl ?_ q1 ?_
          · intro W hW
            (try dsimp only at hW)
            obtain ⟨h0, h1, h2, h3, h4⟩ := hW
            go_simp
          simp only [Act.put, List.setIfInBounds_toArray, List.set_cons_zero, List.set_cons_succ]
          refine oneL (i := 7) (o := { dst := some 56, op := Go.Op.buildSlice 63 1 #[(0, Go.Operand.tmp 55)], type := 63, pos := "ref.go:37", after := #[{ on := 6, ground := Go.Ground.data }], guard := none }) rfl (by kernel_rfl) rfl ?_
          refine wp_by_run (v := .slice (some ⟨w2.heap.size, 0, none⟩) 1 1) (w' := (w2.alloc (.cells #[.int .i64 rs, .int .i64 rk, .int .i64 rp] 105)).drew) (by go_simp) ?_
          refine ⟨fun _ => q3, ?_⟩
          simp only [Act.put, List.setIfInBounds_toArray, List.set_cons_zero, List.set_cons_succ]
          refine oneL (i := 8) (o := { dst := some 57, op := Go.Op.call { callee := Go.Callee.builtin Go.Builtin.append, args := #[Go.Operand.tmp 50, Go.Operand.tmp 56], argTypes := #[63, 63] }, type := 63, pos := "ref.go:37", after := #[{ on := 1, ground := Go.Ground.data }, { on := 7, ground := Go.Ground.data }], guard := none }) rfl (by kernel_rfl) rfl ?_
          refine wpR_OwnUN rfl (.tmp 50) (.tmp 56) rfl ws.heap.size _ ((List.range m).map R) rfl HOA.out w2.heap.size ⟨rs, rk, rp⟩ rfl N0.out N1.out N2.out (m + 1) (by rw [HLM.out]) (by rw [HLM.out]; omega) (by show ws.heap.size ≤ (w2.alloc _).heap.size; rw [World.size_alloc]; omega) ?_
          intro a3 c3 w3 hO3 hG3
          have hown := HO2.out.row
          have k3 : ∀ j, j < w2.heap.size → (Value.slice xa m xc).ownBlock ≠ some j → w3.heap[j]? = w2.heap[j]? := fun j hj hne => (hG3.block j (by show j < (w2.alloc _).heap.size; rw [World.size_alloc]; omega) (fun e => hne e.symm)).trans (Below.heap_alloc w2 _ j hj)
          have ht3 := (k3 w.heap.size (by omega) (fun e => by have := hown _ e; omega)).trans HT2.out
          have hz3 := (k3 (w.heap.size + 1) (by omega) (fun e => by have := hown _ e; omega)).trans HZ2.out
          have hu3 := (k3 (w.heap.size + 1 + 1) hul2 (fun e => by have := hown _ e; omega)).trans HU2.out
          have q4 : w3.cell? ⟨w.heap.size, 1, none⟩ = some (.slice (some ⟨b, o, none⟩) rl rc) ∧ w3.cell? ⟨w.heap.size + 1 + 1, 1, none⟩ = some (.slice xa m xc) ∧ w3.cell? ⟨b, o + m * 3, none⟩ = some (.int .i64 rs) ∧ w3.cell? ⟨b, o + m * 3 + 1, none⟩ = some (.int .i64 rk) ∧ w3.cell? ⟨b, o + m * 3 + 2, none⟩ = some (.int .i64 rp) := ⟨cell_of_row _ _ 1 _ _ _ ht3, cell_of_row _ _ 1 _ _ _ hu3, World.grownBy.cell hG3 q3.2.2.1 (fun e => by have := hown b e.symm; omega), World.grownBy.cell hG3 q3.2.2.2.1 (fun e => by have := hown b e.symm; omega), World.grownBy.cell hG3 q3.2.2.2.2 (fun e => by have := hown b e.symm; omega)⟩
          have y0 := q4.2.1
          have yf := frozen_of_row w3 (w.heap.size + 1 + 1) 1 _ _ hu3
          have hs3 : w2.heap.size + 1 ≤ w3.heap.size := by have := hG3.size; rwa [show ((w2.alloc (.cells #[.int .i64 rs, .int .i64 rk, .int .i64 rp] 105)).drew).heap.size = w2.heap.size + 1 from World.size_alloc _ _] at this
          have HB3 := Lib.hid (show Below w.heap.size w w3 from HB2.out.trans (((Below.refl w.heap.size w2).alloc HB2.out.size (.cells #[.int .i64 rs, .int .i64 rk, .int .i64 rp] 105)).drew.trans ((Below.refl w.heap.size _).grown hG3 (by show w.heap.size ≤ (w2.alloc _).heap.size; rw [World.size_alloc]; omega) (fun r e => by have := hown r e; omega))))
          have HKEEP3 := Lib.hid (show ∀ j, j < ws.heap.size → j ≠ w.heap.size + 1 + 1 → w3.heap[j]? = ws.heap[j]? from fun j hj hne => (k3 j (by omega) (fun e => by have := hown j e; omega)).trans (HKEEP.out j hj hne))
          have HT3 := Lib.hid ht3
          have HZ3 := Lib.hid hz3
          have HU3 := Lib.hid hu3
          have HO3 := Lib.hid hO3
          clear hO3 hG3 ht3 hz3 hu3 k3 hown q1 q3 hba
          refine ⟨fun _ => q4, ?_⟩
          simp only [Act.put, List.setIfInBounds_toArray, List.set_cons_zero, List.set_cons_succ]
          refine oneL (i := 9) (o := { dst := some 58, op := Go.Op.fieldAddr 65 (Go.Operand.tmp 3) 1, type := 0, pos := "ref.go:37", after := #[{ on := 0, ground := Go.Ground.phase }, { on := 1, ground := Go.Ground.phase }, { on := 2, ground := Go.Ground.phase }, { on := 3, ground := Go.Ground.phase }, { on := 4, ground := Go.Ground.phase }, { on := 5, ground := Go.Ground.phase }, { on := 6, ground := Go.Ground.phase }, { on := 7, ground := Go.Ground.phase }, { on := 8, ground := Go.Ground.phase }], guard := none }) rfl (by kernel_rfl) rfl ?_
          refine wp_by_run (v := .pointer (some ⟨w.heap.size + 1 + 1, 1, none⟩)) (w' := w3) (by go_simp) ?_
          refine ⟨fun _ => q4, ?_⟩
          simp only [Act.put, List.setIfInBounds_toArray, List.set_cons_zero, List.set_cons_succ]
          refine oneL (i := 10) (o := { dst := none, op := Go.Op.store 63 (Go.Operand.tmp 58) (Go.Operand.tmp 57), type := 0, pos := "ref.go:37", after := #[{ on := 9, ground := Go.Ground.data }, { on := 8, ground := Go.Ground.data }, { on := 8, ground := Go.Ground.chain }, { on := 0, ground := Go.Ground.phase }, { on := 1, ground := Go.Ground.phase }, { on := 2, ground := Go.Ground.phase }, { on := 3, ground := Go.Ground.phase }, { on := 4, ground := Go.Ground.phase }, { on := 5, ground := Go.Ground.phase }, { on := 6, ground := Go.Ground.phase }, { on := 7, ground := Go.Ground.phase }, { on := 8, ground := Go.Ground.phase }], guard := none }) rfl (by kernel_rfl) rfl ?_
          refine wp_by_skip (w' := w3.setCell ⟨w.heap.size + 1 + 1, 1, none⟩ (.slice a3 (m + 1) c3)) (by go_simp) ?_
          refine ⟨fun h => absurd rfl h, ?_⟩
          refine doneL (by kernel_rfl) (Calm.normal ?_) _
          clear q4 y0 yf
          go_wp2
          go_roundw
          case rel => exact ⟨m + 1, a3, c3, by omega, by go_num, (heap_setCell_other _ ⟨w.heap.size + 1 + 1, 1, none⟩ w.heap.size _ (by show w.heap.size ≠ w.heap.size + 1 + 1; omega)).trans HT3.out, (heap_setCell_other _ ⟨w.heap.size + 1 + 1, 1, none⟩ (w.heap.size + 1) _ (by show w.heap.size + 1 ≠ w.heap.size + 1 + 1; omega)).trans HZ3.out, heap_setCell_same _ (w.heap.size + 1 + 1) 1 _ _ _ HU3.out, by rw [List.range_succ, List.map_append, List.map_cons, List.map_nil, HRR.out]; exact HO3.out.kept (fun j hj => heap_setCell_other _ ⟨w.heap.size + 1 + 1, 1, none⟩ j _ (by have := HO3.out.row j hj; show j ≠ w.heap.size + 1 + 1; omega)), ⟨by simp; omega, fun j hj hne => (heap_setCell_other _ ⟨w.heap.size + 1 + 1, 1, none⟩ j _ hne).trans (HKEEP3.out j hj hne)⟩, HB3.out.setCell (p := ⟨w.heap.size + 1 + 1, 1, none⟩) (by show w.heap.size ≤ w.heap.size + 1 + 1; omega) _⟩
          case measure => first | (simp [intOf]; done) | (simp [intOf]; omega)
        · have hme : m = rl := by omega
          subst hme
          have hnl2 : ¬ ((m : Int) < m) := by omega
          have hown := HO.out.row
          have hx := HO2.out.row
          obtain ⟨Wf, hWf⟩ : ∃ Wf, Wf = (w2.setCell ⟨w.heap.size + 1, 0, none⟩ (.slice va k vc)).setCell ⟨w.heap.size + 1, 1, none⟩ (.slice xa m xc) := ⟨_, rfl⟩
          obtain ⟨z0, z1⟩ := cells2t HZ2.out
          have zf0 := frozen_of_row w2 (w.heap.size + 1) 0 _ _ HZ2.out
          have hz3 : (w2.setCell ⟨w.heap.size + 1, 0, none⟩ (.slice va k vc)).heap[w.heap.size + 1]? = some (.cells #[.slice va k vc, .slice none 0 0] 65 (0, 0)) := heap_setCell_same _ (w.heap.size + 1) 0 _ _ _ HZ2.out
          have z2 : (w2.setCell ⟨w.heap.size + 1, 0, none⟩ (.slice va k vc)).cell? ⟨w.heap.size + 1, 1, none⟩ = some (.slice none 0 0) := cell_of_row _ _ 1 _ _ _ hz3
          have zf1 := frozen_of_row _ (w.heap.size + 1) 1 _ _ hz3
          have hz4 : ((w2.setCell ⟨w.heap.size + 1, 0, none⟩ (.slice va k vc)).setCell ⟨w.heap.size + 1, 1, none⟩ (.slice xa m xc)).heap[w.heap.size + 1]? = some (.cells #[.slice va k vc, .slice xa m xc] 65 (0, 0)) := heap_setCell_same _ (w.heap.size + 1) 1 _ _ _ hz3
          have HZ4 := Lib.hid hz4
          have hsc : ∀ j, j ≠ w.heap.size + 1 → Wf.heap[j]? = w2.heap[j]? := fun j hj => by rw [hWf]; exact (heap_setCell_other _ ⟨w.heap.size + 1, 1, none⟩ j _ hj).trans (heap_setCell_other _ ⟨w.heap.size + 1, 0, none⟩ j _ hj)
          have hwz : Wf.heap.size = w2.heap.size := by rw [hWf]; simp
          have HPU := Lib.hid (copies_pls (HO.out.kept (w' := Wf) (fun j hj => (hsc j (by have := (hown j hj).1; omega)).trans (HKEEP.out j (hown j hj).2 (by have := (hown j hj).1; omega)))) (fun i hi => ⟨(HC.out i hi).1, (HC.out i hi).2.kept (Nb' := fun b => b ≤ w.heap.size + 1 + 1 ∨ (Value.slice va k vc).ownBlock = some b) (by omega) (fun j hj hn => (hsc j (fun e => hn (.inl (by omega)))).trans (HKEEP.out j hj (fun e => hn (.inl (by omega))))) (fun j hj hn => hn)⟩))
          have hrus := (HO2.out.kept (w' := Wf) (fun j hj => hsc j (by have := hx j hj; omega))).rus
          have hlm : ((List.range m).map R).length = m := by simp
          rw [hlm] at hrus
          have HRU := Lib.hid (hrus.fn (R' := R) (fun i hi => by simp [List.getD, hi]))
          have HBF := Lib.hid (show Below w.heap.size w Wf by rw [hWf]; exact (HB2.out.setCell (p := ⟨w.heap.size + 1, 0, none⟩) (by show w.heap.size ≤ w.heap.size + 1; omega) _).setCell (p := ⟨w.heap.size + 1, 1, none⟩) (by show w.heap.size ≤ w.heap.size + 1; omega) _)
          rw [← hWf] at HZ4
          have HWF := Lib.hid hWf
          clear hrus hlm hown hx HO HC HP HR HO2 HKEEP HB hks y0 hsc hwz hWf
          clear hz3 hz4
          go_wp2_with fail
          rw [← HWF.out]
          exact bodyPost_ret (v := tabV va k vc xa m xc) (results_cell_row rfl _ _ (w.heap.size + 1) _ _ _ _ rfl HZ4.out Tryz.underlying65 rfl (sizeT _ _)) rfl ⟨⟨va, vc, xa, xc, cpP P C, rfl, HPU.out, HRU.out, fun i => ⟨rfl, rfl⟩⟩, HBF.out⟩
end Go.Proofs.YtbffmobjiiicoaaGreatDoor.B9
