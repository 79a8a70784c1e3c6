/- The contents of a sector; Read. -/
import Derived.Test.YtpcbolmidnoaiaaDBack
import Derived.Test.YtpcbolmidnoaiaaDLift
import Derived.BigRegionIn
import Derived.RangeFuncKeeps
set_option linter.unusedVariables false
set_option maxRecDepth 100000
set_option linter.unusedSimpArgs false
namespace Go.Proofs.Ytpcbolmidnoaiaa
open Go.RowKit
attribute [local go_sem] Oper.semAt_some
theorem backward_any (a : Option Addr) (l c : Nat) (w : World) : Calls Try.prog 74 #[.slice a l c] w fun e w' => e = .returned (.func (.func 80) #[] #[.pointer (some ⟨w.heap.size, 0, none⟩)]) ∧ w' = w.alloc (.cells #[.slice a l c] 51) := by
  go_enter Try.func74, Try.ntmps74
  go_wp2
  go_ret
  exact ⟨rfl, rfl⟩
/-- No write of the last k is one of sector n. -/
def NoHit (c : List (Int × List Int)) (n : Int) (k : Nat) : Prop := ∀ j, j < k → (cAt c (c.length - 1 - j)).1 ≠ n
theorem find_at {α : Type} (q : α → Bool) : ∀ (r : List α) (k : Nat) (x : α), r[k]? = some x → q x = true → (∀ j, j < k → ∀ y, r[j]? = some y → q y = false) → r.find? q = some x
  | [], k, x, h, _, _ => by simp at h
  | y :: r, 0, x, h, hx, _ => by
    obtain rfl : y = x := by simpa using h
    rw [List.find?_cons, hx]
  | y :: r, k + 1, x, h, hx, hn => by
    rw [List.find?_cons, hn 0 (by omega) y rfl]
    exact find_at q r k x (by simpa using h) hx (fun j hj z hz => hn (j + 1) (by omega) z (by simpa using hz))
theorem rev_at (c : List (Int × List Int)) (k : Nat) (hk : k < c.length) : c.reverse[k]? = some (cAt c (c.length - 1 - k)) := by
  rw [List.getElem?_reverse hk]
  have hlt : c.length - 1 - k < c.length := by omega
  unfold cAt
  simp [List.getD, hlt]
theorem last_hit {c : List (Int × List Int)} {n : Int} {k : Nat} (hk : k < c.length) (h : NoHit c n k) (hn : (cAt c (c.length - 1 - k)).1 = n) : lastOf c n = some (cAt c (c.length - 1 - k)).2 := by
  unfold lastOf
  rw [find_at _ _ k _ (rev_at c k hk) (by simpa using hn) (fun j hj y hy => by
    rw [rev_at c j (by omega)] at hy
    cases hy
    simpa using h j hj)]
  rfl
theorem last_none {c : List (Int × List Int)} {n : Int} (h : NoHit c n c.length) : lastOf c n = none := by
  unfold lastOf
  have : c.reverse.find? (fun x => decide (x.1 = n)) = none := by
    rw [List.find?_eq_none]
    intro x hx
    obtain ⟨j, hj, rfl⟩ := List.getElem_of_mem hx
    have hj' : j < c.length := by simpa using hj
    have e := rev_at c j hj'
    rw [List.getElem?_eq_getElem hj] at e
    rw [Option.some.inj e]
    simpa using h j hj'
  rw [this]; rfl
theorem Only.row {B : Nat} {S : Nat → Prop} {X Y : World} (h : Only B S X Y) {g : Nat} (hg : S g ∨ B ≤ g) (cs : Array Value) : Only B S X (Y.setRow g cs) :=
  h.trans ⟨by simp, fun k hk hs => setRow_other Y g k cs (fun e => by rcases hg with q | q; exact hs (e ▸ q); omega)⟩
theorem store_wr_in {F : Fence} {n : Nat} {w : World} {ops : Array Oper} {rest : List Oper} {o : Oper} {a : Act} {Q : Exit → Act → World → Prop} {x y : Operand} {T : TypeId} {g : Nat} {m : Int} {L : List Int} {cs : Array Value} (hF : ∀ f, F.fn f) (hg : At T w g cs) (hs : cs.size = 129) (hl : L.length = 128)
    (hgd : o.guard = none) (ho : o.op = .store 96 x y) (hx : a.eval x = .pointer (some ⟨g, 0, none⟩)) (hy : a.eval y = wrA m L)
    (h : wpListIn F n Try.prog ops Q rest (a.put o.dst undef) (w.setRow g (wcells (m, L)).toArray)) : wpListIn F n Try.prog ops Q (o :: rest) a w := by
  refine wpListIn_skip (w' := w.setRow g (wcells (m, L)).toArray) hF hgd (by rw [ho]; intro c hc; cases hc) ?_ h
  unfold execOp
  have := run_storeVar_row (P := Try.prog) w g T 96 cs (wcells (m, L)).toArray hg (by rw [wr_size (n := m) hl]; simp) (by simp [wcells_len (x := (m, L)) hl, hs]) (wcells_all _)
  unfold wrA at hy
  simp only [ho, hx, hy, Instr.storeAt, Instr.sureAddr, Sem.run_bind, Sem.run_pure, Result.andThen_ok, this]
theorem store_sec_in {F : Fence} {n : Nat} {w : World} {ops : Array Oper} {rest : List Oper} {o : Oper} {a : Act} {Q : Exit → Act → World → Prop} {x y : Operand} {T : TypeId} {g : Nat} {L : List Int} {cs : Array Value} (hF : ∀ f, F.fn f) (hg : At T w g cs) (hs : cs.size = 128) (hl : L.length = 128)
    (hgd : o.guard = none) (ho : o.op = .store 94 x y) (hx : a.eval x = .pointer (some ⟨g, 0, none⟩)) (hy : a.eval y = secA L)
    (h : wpListIn F n Try.prog ops Q rest (a.put o.dst undef) (w.setRow g (vals8 L).toArray)) : wpListIn F n Try.prog ops Q (o :: rest) a w := by
  refine wpListIn_skip (w' := w.setRow g (vals8 L).toArray) hF hgd (by rw [ho]; intro c hc; cases hc) ?_ h
  unfold execOp
  have := run_storeVar_row (P := Try.prog) w g T 94 cs (vals8 L).toArray hg (by rw [sec_size hl]; simp) (by simp [vals8_len, hl, hs]) (vals8_all L)
  unfold secA at hy
  simp only [ho, hx, hy, Instr.storeAt, Instr.sureAddr, Sem.run_bind, Sem.run_pure, Result.andThen_ok, this]
theorem load_sec_in {F : Fence} {n : Nat} {w : World} {ops : Array Oper} {rest : List Oper} {o : Oper} {a : Act} {Q : Exit → Act → World → Prop} {x : Operand} {b k : Nat} {L : List Int} (hF : ∀ f, F.fn f) (h : w.rangeAt b k (vals8 L)) (hl : L.length = 128)
    (hgd : o.guard = none) (ho : o.op = .load 94 x) (hx : a.eval x = .pointer (some ⟨b, k, none⟩)) (hk : wpListIn F n Try.prog ops Q rest (a.put o.dst (secA L)) w) : wpListIn F n Try.prog ops Q (o :: rest) a w :=
  wpListIn_val hF hgd (by rw [ho]; intro c hc; cases hc) (exec_load ho hx (load_sec h hl)) hk
theorem back_seq (n : Nat) (hn : 1 ≤ n) (Bx Bs : Nat) (v : Value) (c : List (Int × List Int)) (hcl : c.length ≤ 256) (hl : ∀ x ∈ c, x.2.length = 128) (S : Nat → Prop) (hS : ∀ j, S j → j ≠ Bx ∧ v.ownBlock ≠ some j) (w : World)
    (hbx : At 51 w Bx #[v]) (hC : w.ownsRow 0 96 129 v c.length (c.map wcells).flatten) :
    SeqBox n Try.prog 80 #[.pointer (some ⟨Bx, 0, none⟩)] (encB c) Bs S (List.range c.length) w := by
  intro l J Jx W hW hJ hY h0
  exact back1_in n hn l Bx Bs v c hcl hl S hS W (hbx.below hbx.lt hW) (ownsRow_upd hC (Upd.of hW (fun _ => False)) (fun _ _ q => q)) J Jx hY h0
theorem exec_store_sec {o : Oper} {a : Act} {x y : Operand} {w : World} {T : TypeId} {g : Nat} {L : List Int} {cs : Array Value} (ho : o.op = .store 94 x y) (hx : a.eval x = .pointer (some ⟨g, 0, none⟩)) (hy : a.eval y = secA L) (hg : At T w g cs) (hs : cs.size = 128) (hl : L.length = 128) :
    (execOp a.eval o).run Try.prog w = .ok .skip (w.setRow g (vals8 L).toArray) := by
  unfold execOp
  have := run_storeVar_row (P := Try.prog) w g T 94 cs (vals8 L).toArray hg (by rw [sec_size hl]; simp) (by simp [vals8_len, hl, hs]) (vals8_all L)
  unfold secA at hy
  simp only [ho, hx, hy, Instr.storeAt, Instr.sureAddr, Sem.run_bind, Sem.run_pure, Result.andThen_ok, this]
theorem range_of_at {T : TypeId} {W : World} {b : Nat} {x : Int × List Int} (h : At T W b (wcells x).toArray) : W.rangeAt b 1 (vals8 x.2) := fun j v hv => by
  rw [h.cell]
  simp only [wcells, List.getElem?_toArray]
  rw [Nat.add_comm, List.getElem?_cons_succ]; exact hv
set_option maxRecDepth 100000 in
set_option maxHeartbeats 4000000 in
theorem contents_any (p : Pl) (d : Dv) (w : World) (h : DevAt w p d) (n : Int) (hn : HasN d n) :
    Calls Try.prog 63 #[ptr p.D, .int .i64 n] w fun e w' => e = .returned (secA (d.read n)) ∧ (d.read n).length = 128 ∧ Below w.heap.size w w' := by
  obtain ⟨a1, a2, a3, a4, a5, a6, a7⟩ := apart_own h
  have hzs := (zero_of_info sec_zero).1
  have hzw := (zero_of_info wr_zero).1
  obtain ⟨a0, c0, hv0⟩ : ∃ a0 c0, p.vC = .slice a0 d.cache.length c0 := by
    rcases h.cache.2 with ⟨e, e2⟩ | ⟨g, cap, cur, e, _⟩
    · exact ⟨none, 0, by rw [e, e2]⟩
    · exact ⟨_, _, e⟩
  -- the blocks laid ahead
  have s1 : (w.alloc (.cells #[.int .i64 n] 3)).heap.size = w.heap.size + 1 := World.size_alloc _ _
  have s2 : ((w.alloc (.cells #[.int .i64 n] 3)).alloc (.cells (nums .u8 128 fun _ => 0) 94)).heap.size = w.heap.size + 2 := by rw [World.size_alloc, s1]
  have hd2 : DevAt ((w.alloc (.cells #[.int .i64 n] 3)).alloc (.cells (nums .u8 128 fun _ => 0) 94)) p d := (h.alloc _).alloc _
  have cc1 : ((w.alloc (.cells #[.int .i64 n] 3)).alloc (.cells (nums .u8 128 fun _ => 0) 94)).cell? ⟨p.D, 1, none⟩ = some (.slice a0 d.cache.length c0) := by rw [← hv0]; exact hd2.dev.cell 1
  obtain ⟨X, hX⟩ : ∃ X, X = (((w.alloc (.cells #[.int .i64 n] 3)).alloc (.cells (nums .u8 128 fun _ => 0) 94)).alloc (.cells #[.slice a0 d.cache.length c0] 51)) := ⟨_, rfl⟩
  have sX : X.heap.size = w.heap.size + 3 := by rw [hX, World.size_alloc, s2]
  have y0 : At 3 X w.heap.size #[.int .i64 n] := by rw [hX]; exact ((At.new _ w _).alloc _).alloc _
  have y1 : At 94 X (w.heap.size + 1) (nums .u8 128 fun _ => 0) := by
    rw [hX]; have := At.new 94 (w.alloc (.cells #[.int .i64 n] 3)) (nums .u8 128 fun _ => 0); rw [s1] at this; exact this.alloc _
  have y2 : At 51 X (w.heap.size + 2) #[p.vC] := by
    rw [hX, hv0]; have := At.new 51 ((w.alloc (.cells #[.int .i64 n] 3)).alloc (.cells (nums .u8 128 fun _ => 0) 94)) #[.slice a0 d.cache.length c0]; rw [s2] at this; exact this
  have hBX : Below w.heap.size w X := by rw [hX]; exact (((Below.refl _ w).alloc (Nat.le_refl _) _).alloc (by rw [s1]; omega) _).alloc (by rw [s2]; omega) _
  have hdX : DevAt X p d := h.below hBX
  have hBK := backward_any a0 d.cache.length c0 ((w.alloc (.cells #[.int .i64 n] 3)).alloc (.cells (nums .u8 128 fun _ => 0) 94))
  rw [s2] at hBK
  have HBK := Lib.hid hBK
  have HXX := Lib.hid hX
  have HX := Lib.hid (And.intro sX (And.intro y0 (And.intro y1 (And.intro y2 hBX))))
  have HDX := Lib.hid hdX
  have HW := Lib.hid h
  have HL := Lib.hid (show d.cache.length ≤ 256 ∧ (∀ x ∈ d.cache, x.2.length = 128) from ⟨h.ok.full, fun x hx => (h.ok.wr x hx).2.2.1⟩)
  have HN := Lib.hid hn
  have HLT := Lib.hid (show p.D < w.heap.size ∧ p.S < w.heap.size ∧ (∀ k, p.vC.ownBlock = some k → k < w.heap.size) from ⟨h.dev.lt, h.lt _ (.inr (.inl rfl)), fun k e => h.lt k (.inr (.inr e))⟩)
  clear h hBK hX sX y0 y1 y2 hBX hdX hd2 s1 s2 hn a1 a2 a3 a4 a5 a6 a7
  refine (callsIn_wide (n := 4)).1 ?_
  refine callsIn_of_wp_marks Try.func63 rfl trivial ?_ rfl
  simp only [Try.ntmps63, List.size_toArray, List.length_cons, List.length_nil, Nat.reduceAdd, Nat.reduceSub, Array.replicate_succ, Array.replicate_zero, List.push_toArray, List.append_toArray, List.nil_append, List.cons_append]
  gi_wp2_with fail
  refine ⟨trivial, ?_⟩
  refine (callsIn_wide.2 HBK.out).mono ?_
  rintro e w' ⟨rfl, hw⟩
  obtain rfl : X = w' := HXX.out.trans hw.symm
  clear hw cc1 HXX HBK
  gi_wp2_with fail
  obtain ⟨sX, y0, y1, y2, hBX⟩ := HX.out
  have hl := HL.out.2
  refine wpIn_rangeFunc_box (gf := 80) (lb := #[.pointer (some ⟨w.heap.size + 2, 0, none⟩)]) rfl (enters_of Try.func80 (by kernel_rfl) rfl)
    (List.range d.cache.length) (encB d.cache) (w.heap.size + 2) (by omega) (fun j => j = w.heap.size + 1)
    (back_seq (4 - 1) (by omega) (w.heap.size + 2) (w.heap.size + 2) p.vC d.cache HL.out.1 hl _ (fun j hj => ⟨by omega, fun e => by have := HLT.out.2.2 j e; omega⟩) X y2 HDX.out.cache) (fun _ => rfl) (fun j hj => by omega)
    (fun pre W => (At 3 W w.heap.size #[.int .i64 n] ∧ At 94 W (w.heap.size + 1) (nums .u8 128 fun _ => 0) ∧ NoHit d.cache n pre.length) ∧ Below w.heap.size w W)
    (fun pre W => (∃ L, lastOf d.cache n = some L ∧ L.length = 128 ∧ At 94 W (w.heap.size + 1) (vals8 L).toArray) ∧ Below w.heap.size w W)
    ?hI ?hIx
    ⟨⟨y0, y1, fun j hj => by cases hj⟩, hBX⟩
    (fun pre x a₁ W => ∃ Bx, X.heap.size + 2 ≤ Bx ∧ At 96 W Bx (wcells (cAt d.cache (d.cache.length - 1 - x))).toArray ∧ a₁ = { tmps := #[ptr p.D, .int .i64 n, undef, .pointer (some ⟨w.heap.size, 0, none⟩), .pointer (some ⟨w.heap.size + 1, 0, none⟩), undef, .pointer (some ⟨Bx, 0, none⟩), ptr p.D, .pointer (some ⟨p.D, 0, none⟩), .pointer (some ⟨p.D, 1, none⟩), .slice a0 d.cache.length c0, .func (.func 80) #[] #[.pointer (some ⟨w.heap.size + 2, 0, none⟩)], .int .i64 ((d.cache.length - 1 - x : Nat) : Int), wrA (cAt d.cache (d.cache.length - 1 - x)).1 (cAt d.cache (d.cache.length - 1 - x)).2, undef, undef, undef, undef, undef, undef, undef, undef, undef, undef, undef, undef, undef], defers := [] })
    ?hAx ?assign ?body ?done ?stop
  case hI => exact fun pre => SteadyG.and (SteadyG.and (fun X' Y row hs hg hr => (hg.block _ hs.lt (fun e => by have := hr _ e.symm; omega)).trans hs) (SteadyG.and (fun X' Y row hs hg hr => (hg.block _ hs.lt (fun e => by have := hr _ e.symm; omega)).trans hs) (steadyG_pure _ _))) (steadyG_below _ _ _ (fun r e => by omega) (Nat.le_refl _))
  case hIx => exact fun pre => SteadyG.and (fun X' Y row hs hg hr => let ⟨L, e1, e2, e3⟩ := hs; ⟨L, e1, e2, (hg.block _ e3.lt (fun e => by have := hr _ e.symm; omega)).trans e3⟩) (steadyG_below _ _ _ (fun r e => by omega) (Nat.le_refl _))
  case hAx => exact fun pre x a₁ X' Y row hs hg hr => let ⟨Bx, e1, e2, e3⟩ := hs; ⟨Bx, e1, (hg.block _ e2.lt (fun e => by have := hr _ e.symm; omega)).trans e2, e3⟩
  case assign =>
    intro l pre x W K hsz hpre hI hK
    obtain ⟨rfl, hx⟩ := pre_range hpre
    obtain ⟨g, cap, hv, hrg, hle⟩ := cache_range HDX.out.cache hl (d.cache.length - 1 - x) (by omega)
    have HA := Lib.hid (At.new 96 W (#[.int .i64 0] ++ nums .u8 128 fun _ => 0))
    have HLE := Lib.hid hle
    have HF := Lib.hid (show ∀ cs, Only (X.heap.size + 2) (fun j => j = w.heap.size + 1) W ((W.alloc (.cells (#[.int .i64 0] ++ nums .u8 128 fun _ => 0) 96)).setRow W.heap.size cs) from fun cs => ((Only.refl _ _ _).alloc hsz _).row (.inr hsz) cs)
    have HI2 := Lib.hid (show ∀ cs, (At 3 ((W.alloc (.cells (#[.int .i64 0] ++ nums .u8 128 fun _ => 0) 96)).setRow W.heap.size cs) w.heap.size #[.int .i64 n] ∧ At 94 ((W.alloc (.cells (#[.int .i64 0] ++ nums .u8 128 fun _ => 0) 96)).setRow W.heap.size cs) (w.heap.size + 1) (nums .u8 128 fun _ => 0) ∧ NoHit d.cache n (List.range x).length) ∧ Below w.heap.size w ((W.alloc (.cells (#[.int .i64 0] ++ nums .u8 128 fun _ => 0) 96)).setRow W.heap.size cs) from fun cs =>
      ⟨⟨(setRow_other _ _ _ cs (by omega)).trans (hI.1.1.alloc _), (setRow_other _ _ _ cs (by omega)).trans (hI.1.2.1.alloc _), hI.1.2.2⟩, below_row (hI.2.alloc hI.2.size _) hI.2.size cs⟩)
    have HK := Lib.hid hK
    have HSZ := Lib.hid hsz
    clear hI hK hsz hpre hle hrg y0 y1 y2 hBX sX
    unfold encB
    gi_wp2_with (refine store_wr_in (fun _ => trivial) HA.out (by simp [nums_size]) HLE.out rfl rfl rfl rfl ?_)
    exact HK.out _ _ (HF.out _) (HI2.out _) ⟨W.heap.size, HSZ.out, HA.out.row, rfl⟩
  case body =>
    rintro l pre x a₁ W hsz hpre ⟨⟨z0, z1, hno⟩, hB⟩ ⟨Bx, hBx, hbx, rfl⟩
    obtain ⟨rfl, hx⟩ := pre_range hpre
    rw [List.length_range] at hno
    obtain ⟨g, cap, hv, hrg, hle⟩ := cache_range HDX.out.cache hl (d.cache.length - 1 - x) (by omega)
    have k0 : W.cell? ⟨w.heap.size, 0, none⟩ = some (.int .i64 n) := z0.cell 0
    have k1 : W.cell? ⟨Bx, 0, none⟩ = some (.int .i64 (cAt d.cache (d.cache.length - 1 - x)).1) := hbx.cell 0
    have HRG := Lib.hid (range_of_at hbx)
    have HLE := Lib.hid hle
    have HZ0 := Lib.hid z0
    have HZ1 := Lib.hid z1
    have HB := Lib.hid hB
    by_cases hit : (cAt d.cache (d.cache.length - 1 - x)).1 = n
    · have HH := Lib.hid (last_hit hx hno hit)
      rw [hit] at k1
      have HF := Lib.hid (show ∀ cs, Only (X.heap.size + 2) (fun j => j = w.heap.size + 1) W (W.setRow (w.heap.size + 1) cs) from fun cs => (Only.refl _ (fun j => j = w.heap.size + 1) _).row (g := w.heap.size + 1) (.inl rfl) cs)
      clear hit hno hle hrg hbx z0 z1 hB hpre y0 y1 y2 hBX sX
      generalize (cAt d.cache (d.cache.length - 1 - x)).2 = L0 at *
      generalize (cAt d.cache (d.cache.length - 1 - x)).1 = n0 at *
      gi_wp2_with (first | (refine load_sec_in (fun _ => trivial) HRG.out HLE.out rfl rfl rfl ?_) | (refine store_sec_in (fun _ => trivial) HZ1.out (nums_size _ _ _) HLE.out rfl rfl rfl rfl ?_))
      exact ⟨HF.out _, ⟨L0, HH.out, HLE.out, HZ1.out.row⟩, below_row HB.out (by omega) _⟩
    · have e0 : ((cAt d.cache (d.cache.length - 1 - x)).1 == n) = false := by simpa using hit
      have HN2 := Lib.hid (show NoHit d.cache n (x + 1) from fun j hj => by
        by_cases e : j = x
        · rw [e]; exact hit
        · exact hno j (by omega))
      clear hit hno hle hrg hbx z0 z1 hB hpre y0 y1 y2 hBX sX
      generalize (cAt d.cache (d.cache.length - 1 - x)).2 = L0 at *
      generalize (cAt d.cache (d.cache.length - 1 - x)).1 = n0 at *
      gi_wp2
      exact ⟨Only.refl _ _ _, ⟨HZ0.out, HZ1.out, by rw [snoc_range, List.length_range]; exact HN2.out⟩, HB.out⟩
  case done =>
    rintro D W hD ⟨⟨z0, z1, hno⟩, hB⟩ hK
    rw [List.length_range] at hno
    have hr : d.read n = d.at n := by unfold Dv.read; rw [last_none hno]; rfl
    have HRR := Lib.hid hr
    have hdW : DevAt W p d := HW.out.below hB
    obtain ⟨hsec, hle⟩ := hdW.sec HN.out
    obtain ⟨m, rfl⟩ : ∃ m : Nat, n = m := ⟨n.toNat, by have := HN.out.1; omega⟩
    rw [Int.toNat_natCast] at hsec
    have n1 : (m : Int) < d.safe.length := HN.out.2
    have n0 : (0 : Int) ≤ (m : Int) := by omega
    have q1 : (fun W : World => W.cell? ⟨p.D, 0, none⟩ = some (.slice (some ⟨p.S, 0, none⟩) d.safe.length p.cS) ∧ W.cell? ⟨w.heap.size, 0, none⟩ = some (.int .i64 (m : Int)) ∧ W.rangeAt p.S (m * 128) (vals8 (d.at m))) W.drew := ⟨hdW.dev.cell 0, z0.cell 0, by simpa using hsec⟩
    have HLE := Lib.hid hle
    have HZ1 := Lib.hid (show At 94 W.drew (w.heap.size + 1) (nums .u8 128 fun _ => 0) from z1)
    have HB := Lib.hid hB
    have HK := Lib.hid (show (W.drew.setRow (w.heap.size + 1) (vals8 (d.at m)).toArray).heap[D]? = some (.deferred (some [])) from (setRow_other _ _ _ _ (by omega)).trans hK)
    have HDD := Lib.hid (show w.heap.size + 3 ≤ D by omega)
    clear hdW hsec hle z0 z1 hB hK hno hr y0 y1 y2 hBX sX hl hD
    gi_wp2_with fail
    refine wpIn_wide.2 ?_
    refine regionL (fun W => W.cell? ⟨p.D, 0, none⟩ = some (.slice (some ⟨p.S, 0, none⟩) d.safe.length p.cS) ∧ W.cell? ⟨w.heap.size, 0, none⟩ = some (.int .i64 (m : Int)) ∧ W.rangeAt p.S (m * 128) (vals8 (d.at m))) 7 (by kernel_rfl) ?_
    refine takeL (i := 0) (oi := { dst := some 20, op := Go.Op.move (Go.Operand.tmp 0), type := 27, pos := "blockdev.go:208", after := #[], guard := none }) (v := ptr p.D) [7] rfl (by kernel_rfl) (by kernel_rfl) (by kernel_rfl) (by kernel_rfl) (fun _ _ _ h => calm_panic h) rfl ?_ q1 ?_
    · intro W hW; go_simp
    simp only [Act.put, List.setIfInBounds_toArray, List.set_cons_zero, List.set_cons_succ]
    refine takeL (i := 1) (oi := { dst := some 21, op := Go.Op.nilCheck (Go.Operand.tmp 20), type := 0, pos := "blockdev.go:208", after := #[{ on := 0, ground := Go.Ground.data }], guard := none }) (v := .pointer (some ⟨p.D, 0, none⟩)) [7] rfl (by kernel_rfl) (by kernel_rfl) (by kernel_rfl) (by kernel_rfl) (fun _ _ _ h => calm_panic h) rfl ?_ q1 ?_
    · intro W hW; go_simp
    simp only [Act.put, List.setIfInBounds_toArray, List.set_cons_zero, List.set_cons_succ]
    refine takeL (i := 2) (oi := { dst := some 22, op := Go.Op.fieldAddr 53 (Go.Operand.tmp 21) 0, type := 0, pos := "blockdev.go:208", after := #[{ on := 1, ground := Go.Ground.data }], guard := none }) (v := .pointer (some ⟨p.D, 0, none⟩)) [7] rfl (by kernel_rfl) (by kernel_rfl) (by kernel_rfl) (by kernel_rfl) (fun _ _ _ h => calm_panic h) rfl ?_ q1 ?_
    · intro W hW; go_simp
    simp only [Act.put, List.setIfInBounds_toArray, List.set_cons_zero, List.set_cons_succ]
    refine takeL (i := 3) (oi := { dst := some 23, op := Go.Op.load 48 (Go.Operand.tmp 22), type := 48, pos := "blockdev.go:208", after := #[{ on := 2, ground := Go.Ground.data }], guard := none }) (v := .slice (some ⟨p.S, 0, none⟩) d.safe.length p.cS) [7] rfl (by kernel_rfl) (by kernel_rfl) (by kernel_rfl) (by kernel_rfl) (fun _ _ _ h => calm_panic h) rfl ?_ q1 ?_
    · intro W hW; have k := hW.1; go_simp
    simp only [Act.put, List.setIfInBounds_toArray, List.set_cons_zero, List.set_cons_succ]
    refine takeL (i := 4) (oi := { dst := some 24, op := Go.Op.load 3 (Go.Operand.tmp 3), type := 3, pos := "blockdev.go:208", after := #[], guard := none }) (v := .int .i64 (m : Int)) [7] rfl (by kernel_rfl) (by kernel_rfl) (by kernel_rfl) (by kernel_rfl) (fun _ _ _ h => calm_panic h) rfl ?_ q1 ?_
    · intro W hW; have k := hW.2.1; go_simp
    simp only [Act.put, List.setIfInBounds_toArray, List.set_cons_zero, List.set_cons_succ]
    refine takeL (i := 5) (oi := { dst := some 25, op := Go.Op.indexAddr 48 (Go.Operand.tmp 23) (Go.Operand.tmp 24), type := 0, pos := "blockdev.go:208", after := #[{ on := 3, ground := Go.Ground.data }, { on := 4, ground := Go.Ground.data }], guard := none }) (v := .pointer (some ⟨p.S, m * 128, none⟩)) [7] rfl (by kernel_rfl) (by kernel_rfl) (by kernel_rfl) (by kernel_rfl) (fun _ _ _ h => calm_panic h) rfl ?_ q1 ?_
    · intro W hW; go_simp
    simp only [Act.put, List.setIfInBounds_toArray, List.set_cons_zero, List.set_cons_succ]
    refine takeL (i := 6) (oi := { dst := some 26, op := Go.Op.load 94 (Go.Operand.tmp 25), type := 94, pos := "blockdev.go:208", after := #[{ on := 5, ground := Go.Ground.data }], guard := none }) (v := secA (d.at m)) [7] rfl (by kernel_rfl) (by kernel_rfl) (by kernel_rfl) (by kernel_rfl) (fun _ _ _ h => calm_panic h) rfl ?_ q1 ?_
    · exact fun W hW => exec_load rfl rfl (load_sec hW.2.2 HLE.out)
    simp only [Act.put, List.setIfInBounds_toArray, List.set_cons_zero, List.set_cons_succ]
    refine oneL (i := 7) (o := { dst := none, op := Go.Op.store 94 (Go.Operand.tmp 4) (Go.Operand.tmp 26), type := 0, pos := "blockdev.go:208", after := #[{ on := 6, ground := Go.Ground.data }, { on := 0, ground := Go.Ground.phase }, { on := 1, ground := Go.Ground.phase }, { on := 2, ground := Go.Ground.phase }, { on := 3, ground := Go.Ground.phase }, { on := 4, ground := Go.Ground.phase }, { on := 5, ground := Go.Ground.phase }, { on := 6, ground := Go.Ground.phase }], guard := none }) rfl (by kernel_rfl) rfl ?_
    refine wp_by_skip (w' := W.drew.setRow (w.heap.size + 1) (vals8 (d.at m)).toArray) (exec_store_sec rfl rfl rfl HZ1.out (nums_size _ _ _) HLE.out) ⟨fun h => absurd rfl h, ?_⟩
    simp only [Act.put, List.setIfInBounds_toArray, List.set_cons_zero, List.set_cons_succ]
    refine doneL (by kernel_rfl) (Calm.normal ?_) _
    gi_wp2
    refine ⟨by simp, .inl ⟨_, _, rfl, run_takeDeferred HK.out, ?_⟩⟩
    have hDD := HDD.out
    have hrow : At 94 (W.drew.setRow (w.heap.size + 1) (vals8 (d.at m)).toArray) (w.heap.size + 1) (vals8 (d.at m)).toArray := HZ1.out.row
    refine ⟨_, results_cell_row rfl _ _ (w.heap.size + 1) _ _ _ _ rfl ((World.putObj_heap_other (by omega)).trans hrow) Try.underlying94 rfl (by rw [sec_size HLE.out]; simp), ⟨by rw [HRR.out]; rfl, by rw [HRR.out]; exact HLE.out, ?_⟩⟩
    exact (below_row HB.out.drew (by omega) _).trans (belowK_b (w := w) (Nat.le_refl _) _ D _ _ (by omega) HK.out rfl rfl)
  case stop =>
    rintro D pre W hD hpre ⟨⟨L, hlast, hlen, hrow⟩, hB⟩ hK
    have hr : d.read n = L := by unfold Dv.read; rw [hlast]; rfl
    have HRR := Lib.hid hr
    have HK := Lib.hid hK
    have HROW := Lib.hid hrow
    have HB := Lib.hid hB
    have hDD : w.heap.size + 3 ≤ D := by omega
    have HDD := Lib.hid hDD
    clear hr hK hrow hB y0 y1 y2 hBX sX hl hD hDD
    gi_wp2
    refine ⟨by simp, .inl ⟨_, _, rfl, run_takeDeferred HK.out, ?_⟩⟩
    have hDD := HDD.out
    refine ⟨_, results_cell_row rfl _ _ (w.heap.size + 1) _ _ _ _ rfl ((World.putObj_heap_other (by omega)).trans HROW.out) Try.underlying94 rfl (by rw [sec_size hlen]; simp), ⟨by rw [HRR.out]; rfl, by rw [HRR.out]; exact hlen, ?_⟩⟩
    exact HB.out.trans (belowK_b (w := w) (Nat.le_refl _) _ D _ _ (by omega) HK.out rfl rfl)
end Go.Proofs.Ytpcbolmidnoaiaa
