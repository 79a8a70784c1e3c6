/- current. -/
import Derived.Test.YtpcbolmidnoaiaaJPair
import Derived.Laws.Cover1
set_option linter.unusedVariables false
set_option linter.unusedSimpArgs false
namespace Go.Proofs.Ytpcbolmidnoaiaa
open Go.RowKit Go.Shelf
/-- What is known of the superblocks that were looked at. -/
structure Cu where
  place : Nat
  num : Nat
  fin : Nat
  top : Nat
  found : Bool
def Cu.upd (c : Cu) (L : List Int) : Nat := max (max c.top (wordN L 0)) (wordN L 120)
def Cu.step (c : Cu) (k : Nat) (L : List Int) : Cu := if wordN L 0 = wordN L 120 ∧ (c.found = false ∨ c.num < wordN L 0) then ⟨k, wordN L 0, wordN L 8, c.upd L, true⟩ else { c with top := c.upd L }
def curN (Ls : Nat → List Int) : Nat → Cu
  | 0 => ⟨0, 0, 0, 0, false⟩
  | k + 1 => (curN Ls k).step k (Ls k)
theorem results_cell2 {fn : Func} {p u v : Tmp} {ty : TypeId} (h : fn.results = #[.cell p ty, .tmp u, .tmp v]) {tmps : Array Value} {W : World} {b : Nat} {y x z : Value} (hp : tmps.getD p undef = .pointer (some ⟨b, 0, none⟩)) (hu : tmps.getD u undef = x) (hv : tmps.getD v undef = z) (hl : (loadVar ty ⟨b, 0, none⟩).run Try.prog W = .ok y W) :
    (results fn tmps).run Try.prog W = .ok (.tuple #[y, x, z]) W := by
  simp only [Array.getD_eq_getD_getElem?] at hp hu hv
  simp [results, h, hp, hu, hv, asAddr, hl, Result.andThen, Sem.run_bind]
theorem head_size : (Try.prog.info? 62).map (·.size) = some 3 := by kernel_rfl
theorem load_head {w : World} {b : Nat} {x y z : Value} (h : At 62 w b #[x, y, z]) : (loadVar 62 ⟨b, 0, none⟩).run Try.prog w = .ok (.agg #[x, y, z]) w :=
  run_loadVar_mid (P := Try.prog) w b 0 62 [x, y, z] _ (range_at h) Try.underlying62 rfl head_size
theorem max3 (t n a : Nat) : (if (a : Int) > (if (n : Int) > (t : Int) then (n : Int) else (t : Int)) then (a : Int) else (if (n : Int) > (t : Int) then (n : Int) else (t : Int))) = ((max (max t n) a : Nat) : Int) := by
  split <;> split at * <;> omega
theorem max3' (t n a : Nat) : (if (if t < n then (n : Int) else (t : Int)) < (a : Int) then (a : Int) else if t < n then (n : Int) else (t : Int)) = ((max (max t n) a : Nat) : Int) := by
  split <;> split at * <;> omega
def CurE (w w' : World) (c : Cu) (e : Ending) : Prop := e = .returned (.tuple #[.agg #[.int .i64 (c.place : Nat), .int .u64 (c.num : Nat), .int .u64 (c.top : Nat)], .int .u64 (c.fin : Nat), .bool c.found]) ∧ Below w.heap.size w w'
set_option maxRecDepth 100000 in
set_option maxHeartbeats 2000000 in
theorem current_any (b : Nat) (Ls : Nat → List Int) (w : World) (hb : b < w.heap.size) (h : ∀ k, k < 2 → SecIn w b (k * 128) (Ls k)) :
    Calls Try.prog 26 #[ptr b] w fun e w' => CurE w w' (curN Ls 2) e := by
  have hbx : Below w.heap.size w (w.alloc (.cells #[.int .i64 0, .int .u64 0, .int .u64 0] 62)) := (Below.refl _ w).alloc (Nat.le_refl _) _
  have H0 := Lib.hid (And.intro (At.new 62 w #[.int .i64 0, .int .u64 0, .int .u64 0]) hbx)
  have H := Lib.hid h
  have HLT := Lib.hid hb
  have c00 : w.cell? ⟨b, 0, none⟩ = some (.int .u8 ((Ls 0).getD 0 0)) := by have := (h 0 (by decide)).cell 0 (by decide); rwa [Nat.zero_mul] at this
  clear h hb hbx
  go_enter Try.func26, Try.ntmps26
  go_wp2_with fail
  go_loopw [3, 4, 5, 9] (fun f d t i wr => ∃ k : Nat, k ≤ 2 ∧ i = .int .i64 (k : Int) ∧ f = .int .u64 ((curN Ls k).fin : Nat) ∧ d = .bool (curN Ls k).found ∧ t = .int .u64 ((curN Ls k).top : Nat) ∧ At 62 wr w.heap.size #[.int .i64 ((curN Ls k).place : Nat), .int .u64 ((curN Ls k).num : Nat), .int .u64 0] ∧ Below w.heap.size w wr) (fun _ _ _ i _ => (2 - intOf i).toNat)
  case atStart => exact ⟨0, by omega, rfl, rfl, rfl, rfl, H0.out.1, H0.out.2⟩
  case round =>
    obtain ⟨k, hk, rfl, rfl, rfl, rfl, hat, hB⟩ := hrel
    by_cases hlt : k < 2
    · have i1 : (k : Int) < 2 := by omega
      have i0 : (0 : Int) ≤ (k : Int) := by omega
      have wk := wrap_succ (k := k) (by omega)
      have hsec := (H.out k hlt).below hB HLT.out
      have HW0 := Lib.hid (word_0 b (k * 128) (Ls k) wr hsec)
      have HW1 := Lib.hid (word_120 b (k * 128) (Ls k) wr hsec)
      have HV := Lib.hid (isValid_any b (k * 128) (Ls k) wr hsec)
      have HST := Lib.hid (show curN Ls (k + 1) = (curN Ls k).step k (Ls k) from rfl)
      have HSEC := Lib.hid hsec
      have b0 : wr.cell? ⟨b, k * 128, none⟩ = some (.int .u8 ((Ls k).getD 0 0)) := hsec.cell 0 (by decide)
      have HK := Lib.hid (And.intro hlt (And.intro hat hB))
      obtain ⟨C, hC⟩ : ∃ C, curN Ls k = C := ⟨_, rfl⟩
      rw [hC] at hat HST HK ⊢
      have hH1 : wr.cell? ⟨w.heap.size, 1, none⟩ = some (.int .u64 (C.num : Nat)) := hat.cell 1
      have hH0 : wr.cell? ⟨w.heap.size, 0, none⟩ = some (.int .i64 (C.place : Nat)) := hat.cell 0
      have f0 := hat.free 0
      have f1 := hat.free 1
      have hmx := max3' C.top (wordN (Ls k) 0) (wordN (Ls k) 120)
      unfold Cu.step Cu.upd at HST
      obtain ⟨L, hL⟩ : ∃ L, Ls k = L := ⟨_, rfl⟩
      rw [hL] at HW0 HW1 HV HST HSEC b0 hmx
      have HMX := Lib.hid hmx
      clear hmx c00 hk hat hB hlt hsec hC hL
      by_cases hv : wordN L 0 = wordN L 120
      · rw [decide_eq_true hv] at HV
        have HW8 := Lib.hid (fun W (hs : SecIn W b (k * 128) L) => word_8 b (k * 128) L W hs)
        obtain ⟨T, hT⟩ : ∃ T, max (max C.top (wordN L 0)) (wordN L 120) = T := ⟨_, rfl⟩
        rw [hT] at HMX HST
        have HVE := Lib.hid hv
        clear hT hv
        generalize hn0 : wordN L 0 = n0 at *
        generalize hn1 : wordN L 120 = n1 at *
        generalize hn8 : wordN L 8 = n8 at *
        clear hn0 hn1 hn8
        by_cases hf : C.found = true
        · by_cases hn : C.num < n0
          · rw [if_pos ⟨HVE.out, .inr hn⟩] at HST
            rw [hf] at *
            have hn9 : (C.num : Int) < (n0 : Int) := by omega
            clear hn
            have HA2 := Lib.hid ((HK.out.2.1.set 0 (.int .i64 (k : Int))).set 1 (.int .u64 (n0 : Nat)))
            have HB2 := Lib.hid ((HK.out.2.2.setCell (p := ⟨w.heap.size, 0, none⟩) (Nat.le_refl _) (.int .i64 (k : Int))).setCell (p := ⟨w.heap.size, 1, none⟩) (Nat.le_refl _) (.int .u64 (n0 : Nat)))
            have HS2 := Lib.hid (show SecIn ((wr.setCell ⟨w.heap.size, 0, none⟩ (.int .i64 (k : Int))).setCell ⟨w.heap.size, 1, none⟩ (.int .u64 (n0 : Nat))) b (k * 128) L from ⟨HSEC.out.sec, fun i hi => ((((Below.refl w.heap.size wr).setCell (p := ⟨w.heap.size, 0, none⟩) (Nat.le_refl _) (.int .i64 (k : Int))).setCell (p := ⟨w.heap.size, 1, none⟩) (Nat.le_refl _) (.int .u64 (n0 : Nat))).cell (p := ⟨b, k * 128 + i, none⟩) HLT.out).trans (HSEC.out.cell i hi)⟩)
            have HW8a := Lib.hid (HW8.out _ HS2.out)
            go_wp2_with (first
              | (go_at_call 47; refine HV.out.mono ?_; rintro e w' ⟨rfl, rfl⟩)
              | (go_at_call 46; (with_reducible refine HW0.out.mono ?_); rintro e w' ⟨rfl, rfl⟩)
              | (go_at_call 46; (with_reducible refine HW1.out.mono ?_); rintro e w' ⟨rfl, rfl⟩)
              | (go_at_call 46; (with_reducible refine HW8a.out.mono ?_); rintro e w' ⟨rfl, rfl⟩)
              | fail)
            go_roundw
            case rel =>
              exact ⟨k + 1, HK.out.1, by first | rfl | rw [wk], by rw [HST.out], by rw [HST.out], by rw [HST.out]; exact congrArg (Value.int .u64) HMX.out, by rw [HST.out]; exact HA2.out, HB2.out⟩
            case measure => first | exact meas_succ (K := 2) HK.out.1 wk | (clear wk; have hk9 := HK.out.1; show ((2 : Int) - ((k : Int) + 1)).toNat < ((2 : Int) - (k : Int)).toNat; omega)
          · rw [if_neg (fun q => by rcases q.2 with e | e; rw [hf] at e; cases e; exact hn e)] at HST
            have hn9 : ¬ ((C.num : Int) < (n0 : Int)) := by omega
            have HFD := Lib.hid hf
            rw [hf]
            clear hn hf
            go_wp2_with (first
              | (go_at_call 47; refine HV.out.mono ?_; rintro e w' ⟨rfl, rfl⟩)
              | (go_at_call 46; (with_reducible refine HW0.out.mono ?_); rintro e w' ⟨rfl, rfl⟩)
              | (go_at_call 46; (with_reducible refine HW1.out.mono ?_); rintro e w' ⟨rfl, rfl⟩)
              | fail)
            go_roundw
            case rel => exact ⟨k + 1, HK.out.1, by first | rfl | rw [wk], by rw [HST.out], by rw [HST.out]; show _ = Value.bool C.found; rw [HFD.out], by rw [HST.out]; exact congrArg (Value.int .u64) HMX.out, by rw [HST.out]; exact HK.out.2.1, HK.out.2.2⟩
            case measure => first | exact meas_succ (K := 2) HK.out.1 wk | (clear wk; have hk9 := HK.out.1; show ((2 : Int) - ((k : Int) + 1)).toNat < ((2 : Int) - (k : Int)).toNat; omega)
        · have hf : C.found = false := by simpa using hf
          rw [if_pos ⟨HVE.out, .inl hf⟩] at HST
          rw [hf] at *
          have HA2 := Lib.hid ((HK.out.2.1.set 0 (.int .i64 (k : Int))).set 1 (.int .u64 (n0 : Nat)))
          have HB2 := Lib.hid ((HK.out.2.2.setCell (p := ⟨w.heap.size, 0, none⟩) (Nat.le_refl _) (.int .i64 (k : Int))).setCell (p := ⟨w.heap.size, 1, none⟩) (Nat.le_refl _) (.int .u64 (n0 : Nat)))
          have HS2 := Lib.hid (show SecIn ((wr.setCell ⟨w.heap.size, 0, none⟩ (.int .i64 (k : Int))).setCell ⟨w.heap.size, 1, none⟩ (.int .u64 (n0 : Nat))) b (k * 128) L from ⟨HSEC.out.sec, fun i hi => ((((Below.refl w.heap.size wr).setCell (p := ⟨w.heap.size, 0, none⟩) (Nat.le_refl _) (.int .i64 (k : Int))).setCell (p := ⟨w.heap.size, 1, none⟩) (Nat.le_refl _) (.int .u64 (n0 : Nat))).cell (p := ⟨b, k * 128 + i, none⟩) HLT.out).trans (HSEC.out.cell i hi)⟩)
          have HW8a := Lib.hid (HW8.out _ HS2.out)
          go_wp2_with (first
            | (go_at_call 47; refine HV.out.mono ?_; rintro e w' ⟨rfl, rfl⟩)
            | (go_at_call 46; (with_reducible refine HW0.out.mono ?_); rintro e w' ⟨rfl, rfl⟩)
            | (go_at_call 46; (with_reducible refine HW1.out.mono ?_); rintro e w' ⟨rfl, rfl⟩)
            | (go_at_call 46; (with_reducible refine HW8a.out.mono ?_); rintro e w' ⟨rfl, rfl⟩)
            | fail)
          go_roundw
          case rel =>
            exact ⟨k + 1, HK.out.1, by first | rfl | rw [wk], by rw [HST.out], by rw [HST.out], by rw [HST.out]; exact congrArg (Value.int .u64) HMX.out, by rw [HST.out]; exact HA2.out, HB2.out⟩
          case measure => first | exact meas_succ (K := 2) HK.out.1 wk | (clear wk; have hk9 := HK.out.1; show ((2 : Int) - ((k : Int) + 1)).toNat < ((2 : Int) - (k : Int)).toNat; omega)
      · rw [decide_eq_false hv] at HV
        rw [if_neg (fun q => hv q.1)] at HST
        obtain ⟨T, hT⟩ : ∃ T, max (max C.top (wordN L 0)) (wordN L 120) = T := ⟨_, rfl⟩
        rw [hT] at HMX HST
        clear hT hv
        generalize hn0 : wordN L 0 = n0 at *
        generalize hn1 : wordN L 120 = n1 at *
        clear hn0 hn1
        go_wp2_with (first
          | (go_at_call 47; refine HV.out.mono ?_; rintro e w' ⟨rfl, rfl⟩)
          | (go_at_call 46; (with_reducible refine HW0.out.mono ?_); rintro e w' ⟨rfl, rfl⟩)
          | (go_at_call 46; (with_reducible refine HW1.out.mono ?_); rintro e w' ⟨rfl, rfl⟩)
          | fail)
        go_roundw
        case rel => exact ⟨k + 1, HK.out.1, by first | rfl | rw [wk], by rw [HST.out], by rw [HST.out], by rw [HST.out]; exact congrArg (Value.int .u64) HMX.out, by rw [HST.out]; exact HK.out.2.1, HK.out.2.2⟩
        case measure => first | exact meas_succ (K := 2) HK.out.1 wk | (clear wk; have hk9 := HK.out.1; show ((2 : Int) - ((k : Int) + 1)).toNat < ((2 : Int) - (k : Int)).toNat; omega)
    · have hk2 : k = 2 := by omega
      subst hk2
      have i1 : ¬ (((2 : Nat) : Int) < 2) := by omega
      have hH2 : wr.cell? ⟨w.heap.size, 2, none⟩ = some (.int .u64 0) := hat.cell 2
      have f2 := hat.free 2
      obtain ⟨C, hC⟩ : ∃ C, curN Ls 2 = C := ⟨_, rfl⟩
      rw [hC] at hat ⊢
      have HC := Lib.hid hC
      have HA := Lib.hid (show At 62 (wr.setCell ⟨w.heap.size, 2, none⟩ (.int .u64 (C.top : Nat))) w.heap.size #[.int .i64 (C.place : Nat), .int .u64 (C.num : Nat), .int .u64 (C.top : Nat)] from hat.set 2 (.int .u64 (C.top : Nat)))
      have HTH := Lib.hid (show (wr.setCell ⟨w.heap.size, 2, none⟩ (.int .u64 (C.top : Nat))).there w.heap.size 0 3 from at_there HA.out)
      have HB := Lib.hid (hB.setCell (p := ⟨w.heap.size, 2, none⟩) (Nat.le_refl _) (.int .u64 (C.top : Nat)))
      clear hat hB hk hlt hC c00
      go_wp2_with (first
        | (refine wpList_load_mid rfl 62 _ rfl w.heap.size 0 rfl [.int .i64 (C.place : Nat), .int .u64 (C.num : Nat), .int .u64 (C.top : Nat)] _ (range_at HA.out) Try.underlying62 rfl head_size ?_)
        | (refine wpList_store_mid rfl 62 _ _ rfl w.heap.size 0 #[.int .i64 (C.place : Nat), .int .u64 (C.num : Nat), .int .u64 (C.top : Nat)] rfl rfl HTH.out head_size (by simp [Value.oneCell']) ?_)
        | fail)
      have hld := run_loadVar_mid (P := Try.prog) _ w.heap.size 0 62 _ _ (World.rangeAt_setCells_same (wr.setCell ⟨w.heap.size, 2, none⟩ (.int .u64 (C.top : Nat))) w.heap.size 0 [.int .i64 (C.place : Nat), .int .u64 (C.num : Nat), .int .u64 (C.top : Nat)] (at_there HA.out)) Try.underlying62 rfl head_size
      refine bodyPost_ret (results_cell2 rfl rfl rfl rfl hld) rfl ?_
      unfold CurE
      rw [HC.out]
      exact ⟨rfl, below_setCells HB.out HB.out.size (Nat.le_refl _) _ _⟩
end Go.Proofs.Ytpcbolmidnoaiaa
