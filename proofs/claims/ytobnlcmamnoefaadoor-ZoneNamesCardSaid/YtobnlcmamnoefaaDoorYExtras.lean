/- The iterator extrasOf: the extras of a zone, ascending and each once. -/
import Derived.Sort.OwnSortedInts
import Derived.Test.YtobnlcmamnoefaaDoorYShelf
import Derived.Test.YtobnlcmamnoefaaDoorSN
import Derived.Test.YtobnlcmamnoefaaDoorYInsMath
import Derived.Test.YtobnlcmamnoefaaDoorKMonths
import Derived.Test.YtobnlcmamnoefaaDoorKDay
set_option linter.unusedVariables false
set_option linter.unusedSimpArgs false
namespace Go.Proofs.YtobnlcmamnoefaaDoor
open Go.RowKit Go.Shelf
attribute [local go_sem] Oper.semAt_some
abbrev Ext := { x : Int // 0 ≤ x ∧ x ≤ 7200 }
def encX (x : Ext) : Array Value := #[.int .i64 x.1]
/-- What a round keeps: every row of cells of type int. -/
def KX (W W' : World) : Prop := ∀ (g : Nat) (cs : Array Value) (fr : Nat × Nat), W.heap[g]? = some (.cells cs 3 fr) → W'.heap[g]? = some (.cells cs 3 fr)
theorem KX.refl (W : World) : KX W W := fun _ _ _ h => h
theorem KX.trans {X Y Z : World} (h : KX X Y) (k : KX Y Z) : KX X Z := fun g cs fr e => k g cs fr (h g cs fr e)
theorem KX.of {X Y : World} (h : Below X.heap.size X Y) : KX X Y := fun g cs fr e => (h.block g (Array.getElem?_eq_some_iff.1 e).1).trans e
theorem kxB (n : Nat) (W : World) (l : Nat) (o o' : Obj) (hl : n ≤ l) (h : W.heap[l]? = some o) (h1 : o.isCells = false) (h2 : o.isWalk = false) : KX W (W.putObj l o') := by
  intro g cs fr e
  have hne : l ≠ g := by
    intro q
    rw [← q, h] at e
    cases e
    cases h1
  exact (World.putObj_heap_other (Ne.symm hne)).trans e
section
variable {off : Int} {R : Nat → Rl} {len : Nat}
def extL (hz : ZoneIs off R len) : List Ext := (extsE R len).pmap (fun x h => ⟨x, h⟩) (extsE_bounds hz)
theorem extL_map (hz : ZoneIs off R len) : (extL hz).map Subtype.val = extsE R len := by
  unfold extL
  rw [List.map_pmap]
  simp
theorem extL_len (hz : ZoneIs off R len) : (extL hz).length = (extsE R len).length := by rw [← extL_map hz, List.length_map]
theorem extL_get (hz : ZoneIs off R len) (j : Nat) (h : j < (extL hz).length) : (extL hz)[j].1 = (extsE R len).getD j 0 := by
  have h2 : j < (extsE R len).length := by rw [← extL_len hz]; exact h
  have e : ((extL hz).map Subtype.val)[j]? = (extsE R len)[j]? := by rw [extL_map]
  rw [List.getElem?_map, List.getElem?_eq_getElem h, List.getElem?_eq_getElem h2] at e
  simp only [Option.map_some, Option.some.injEq] at e
  rw [e]
  simp [List.getD, h2]
end
theorem OwnN.one (W : World) (x : Int) (hx : -9223372036854775808 ≤ x ∧ x < 9223372036854775808) : OwnN W.heap.size (W.alloc (.cells #[.int .i64 x] 3)) (.slice (some ⟨W.heap.size, 0, none⟩) 1 1) [x] := by
  refine ⟨by simpa using hx, by simp [valsN], .inr ⟨W.heap.size, 1, #[.int .i64 x], rfl, Nat.le_refl _, World.alloc_heap_new W _, Nat.le_refl _, by simp [maxLen], by simp, by simp [valsN]⟩⟩
theorem OwnN.open {base n c : Nat} {a : Option Addr} {W : World} {xs : List Int} (h : OwnN base W (.slice a n c) xs) (h0 : 0 < n) :
    n = xs.length ∧ ∃ g cur, a = some ⟨g, 0, none⟩ ∧ base ≤ g ∧ W.heap[g]? = some (.cells cur 3 (0, 0)) ∧ n ≤ c ∧ c ≤ maxLen ∧ cur.size = c ∧ ∀ j, j < xs.length → cur[j]? = some (.int .i64 (xs.getD j 0)) := by
  rcases h.2.2 with ⟨e, e2⟩ | ⟨g, cap, cur, e, hg, hb, hn, hm, hs, ht⟩
  · cases e; omega
  · obtain ⟨a', c', e'⟩ := h.form
    cases e'
    cases e
    refine ⟨rfl, g, cur, rfl, hg, hb, hn, hm, by omega, fun j hj => ?_⟩
    have e1 := valsN_get xs j hj
    rw [← ht, Nat.mul_one, List.getElem?_take_of_lt hj] at e1
    simpa using e1
open Go.Sort in
theorem holds_cells {W : World} {g : Nat} {cur : Array Value} {T : TypeId} {xs : List Int} (hb : W.heap[g]? = some (.cells cur T (0, 0))) (hc : ∀ j, j < xs.length → cur[j]? = some (.int .i64 (xs.getD j 0))) : Holds (Value.int .i64) W g 0 xs.toArray := by
  intro j hj
  have hj' : j < xs.length := by simpa using hj
  rw [get_bang hj', Nat.zero_add]
  refine ⟨?_, ?_⟩
  · have := hc j hj'
    simp only [World.cell?, hb]
    simpa using this
  · simp [World.frozen?, hb]
/-- Behind the sort. -/
theorem behind_sort {base g c : Nat} {W : World} {xs ts : List Int} {n : Nat} {os : Array Obj} (hl : ts.length = xs.length) (ht : ∀ x ∈ ts, -9223372036854775808 ≤ x ∧ x < 9223372036854775808) (h : OwnN base W (.slice (some ⟨g, 0, none⟩) xs.length c) xs) (h0 : 0 < xs.length) (hB : base ≤ W.heap.size) :
    OwnN base (Go.Sort.grow (Go.Sort.putRow (Value.int .i64) (Go.Sort.ahead W n) g 0 ts.toArray) os) (.slice (some ⟨g, 0, none⟩) xs.length c) ts ∧ Below base W (Go.Sort.grow (Go.Sort.putRow (Value.int .i64) (Go.Sort.ahead W n) g 0 ts.toArray) os) := by
  obtain ⟨_, g', cur, e, hg, hb, hn, hm, hs, hc⟩ := h.open h0
  cases e
  refine ⟨⟨ht, ?_⟩, ?_⟩
  · have := ownsRow_sortedI (n := n) (os := os) hl hg hb hn hm (by omega)
    rw [hl]
    exact this
  · exact (Below.refl _ _).grown (grownBy_sortedI ts.toArray) hB (fun k hk => by cases hk; exact hg)
theorem behind_put {base g c : Nat} {W : World} {xs ts : List Int} {n : Nat} (hl : ts.length = xs.length) (ht : ∀ x ∈ ts, -9223372036854775808 ≤ x ∧ x < 9223372036854775808) (h : OwnN base W (.slice (some ⟨g, 0, none⟩) xs.length c) xs) (h0 : 0 < xs.length) (hB : base ≤ W.heap.size) :
    OwnN base (Go.Sort.putRow (Value.int .i64) (Go.Sort.ahead W n) g 0 ts.toArray) (.slice (some ⟨g, 0, none⟩) xs.length c) ts ∧ Below base W (Go.Sort.putRow (Value.int .i64) (Go.Sort.ahead W n) g 0 ts.toArray) := by
  have := behind_sort (n := n) (os := #[]) hl ht h h0 hB
  rw [Go.Sort.grow_empty] at this
  exact this
set_option maxRecDepth 100000 in
set_option maxHeartbeats 2000000 in
theorem extras1_in (n : Nat) (hn : 1 ≤ n) (l Bz : Nat) (off : Int) (a : Option Addr) (len cap : Nat) (R : Nat → Rl) (hz : ZoneIs off R len) (J Jx : List Ext → World → Prop)
    (hY : ∀ pre x W, J pre W → pre.length < (extL hz).length → YieldAt Fence.wide (n - 1) Tryd.prog l #[.int .i64 x.1] W fun e W' =>
      (e = .returned (.bool true) ∧ J (pre ++ [x]) W' ∧ KX W W') ∨ (e = .returned (.bool false) ∧ Jx (pre ++ [x]) W'))
    (W : World) (hJ : AbidesFrom W.heap.size J) (hZ : W.heap[Bz]? = some (.cells #[.int .i64 off, .slice a len cap] 24 (0, 0))) (hR : RulesAt W.heap.size W a len R) (h0 : J [] W) :
    CallsIn Fence.wide n Tryd.prog 53 #[.func (.yield l) #[] #[], .pointer (some ⟨Bz, 0, none⟩)] W fun e W' => (∃ v, e = .returned v) ∧
      ((∃ ys, ys = extL hz ∧ J ys W') ∨ (∃ pre, pre <+: extL hz ∧ Jx pre W')) := by
  have hl20 : (len : Int) ≤ 20 := by have := hz.2.1; omega
  have c1 : (W.alloc (.cells #[.int .i64 0] 3)).cell? ⟨Bz, 1, none⟩ = some (.slice a len cap) := cell_of_row _ Bz 1 _ _ _ (heap_old hZ _)
  have HZ := Lib.hid hz
  have HR := Lib.hid hR
  have HJ := Lib.hid hJ
  have H0 := Lib.hid h0
  have HY := Lib.hid hY
  clear hR hJ h0 hY hZ
  refine callsIn_of_wp Tryd.func53 rfl trivial ?_ rfl
  simp only [Tryd.ntmps53, List.size_toArray, List.length_cons, List.length_nil, Nat.reduceAdd, Nat.reduceSub, Array.replicate_succ, Array.replicate_zero, List.push_toArray, List.append_toArray, List.nil_append, List.cons_append]
  gi_wp2
  gi_loopw [3, 12] (fun v i wr => ∃ k : Nat, k ≤ len ∧ i = .int .i64 k ∧ OwnN W.heap.size wr v (exts R k) ∧ Below W.heap.size W wr) (fun _ i _ => (len - intOf i).toNat)
  case atStart => exact ⟨0, Nat.zero_le _, rfl, OwnN.one W 0 (by omega), (Below.refl _ W).alloc (Nat.le_refl _) _⟩
  case round =>
    obtain ⟨k, hk, rfl, hO, hB⟩ := hrel
    clear c1
    by_cases hlt : k < len
    · have hlti : (k : Int) < len := by omega
      obtain ⟨b, o, rfl, hb, hrl⟩ := HR.out.next hB k hlt
      have hxb := (HZ.out.2.2 k hlt).2.1
      have hsx := exts_succ R k
      obtain ⟨r, hrk⟩ : ∃ r, r = R k := ⟨_, rfl⟩
      rw [← hrk] at hrl hxb hsx
      clear hrk
      obtain ⟨f, lst, m1, w1, n1, t1, m2, w2, n2, t2, x⟩ := r
      obtain ⟨r0, r1, r2, r3, r4, r5, r6, r7, r8, r9, r10⟩ := hrl
      simp only [] at r0 r1 r2 r3 r4 r5 r6 r7 r8 r9 r10 hxb hsx
      have hlen := exts_len R k
      obtain ⟨xs, hxs⟩ : ∃ xs, xs = exts R k := ⟨_, rfl⟩
      rw [← hxs] at hO hsx hlen
      have HSX := Lib.hid hsx
      clear hxs hsx
      obtain ⟨a', c', rfl⟩ := hO.form
      obtain ⟨x1, x2⟩ := hxb
      have hb1 := (Below.refl wr.heap.size wr).alloc (Nat.le_refl _) (.cells #[.int .i64 f, .int .i64 lst, .int .i64 m1, .int .i64 w1, .int .i64 n1, .int .i64 t1, .int .i64 m2, .int .i64 w2, .int .i64 n2, .int .i64 t2, .int .i64 x] 31)
      have hO1 := hO.below hb1 (Nat.le_refl _)
      have hO2 := hO1.below ((Below.refl _ _).alloc (Nat.le_refl _) (.cells #[.int .i64 x] 3)) (Nat.le_refl _)
      have hB1 := hB.alloc hB.size (.cells #[.int .i64 f, .int .i64 lst, .int .i64 m1, .int .i64 w1, .int .i64 n1, .int .i64 t1, .int .i64 m2, .int .i64 w2, .int .i64 n2, .int .i64 t2, .int .i64 x] 31)
      have hB2 := hB1.alloc hB1.size (.cells #[.int .i64 x] 3)
      have hbo := bysN_alloc (T := 3) (wr.alloc (.cells #[.int .i64 f, .int .i64 lst, .int .i64 m1, .int .i64 w1, .int .i64 n1, .int .i64 t1, .int .i64 m2, .int .i64 w2, .int .i64 n2, .int .i64 t2, .int .i64 x] 31)) [x] (by intro y hy; simp at hy; subst hy; omega) #[.int .i64 x] rfl 1 1 rfl (0, 0)
      have hsz := hB2.size
      simp only [World.size_alloc] at hbo
      have hO2h := Lib.hid hO2
      have hB2h := Lib.hid hB2
      clear hb1 hO hO1 hO2 hB hB1 hB2
      gi_wp2_with (first
        | (gi_at_builtin; refine wpListIn_bappN rfl (.tmp 16) (.tmp 19) rfl W.heap.size _ xs rfl hO2h.out _ (some ⟨wr.heap.size + 1, 0, none⟩) 1 1 [x] rfl hbo (by simp; omega) hsz ?_; intro a3 c3 w3 hO3 hG3))
      have hb3 := (Below.refl W.heap.size _).grown hG3 hsz hO2h.out.row
      have e2 : k + 1 + 1 = (xs ++ [x]).length := by simp; omega
      go_roundw
      case rel => exact ⟨k + 1, by omega, by go_num, by rw [HSX.out]; first | exact hO3 | (rw [e2]; exact hO3), hB2h.out.trans hb3⟩
      case measure => first | (simp [intOf]; done) | (simp [intOf]; omega)
    · have hke : k = len := by omega
      rw [hke] at hO
      have hnl : ¬ ((k : Int) < len) := by omega
      have hzl : exts R len = exts R len := rfl
      have hlen := exts_len R len
      have hsl := extsS_len R len
      have hel := extsE_len R len
      have hbz := fun x hx => extsE_bounds HZ.out x ((mem_extsE R len x).2 ((mem_extsS R len x).1 hx))
      have hbe := extsE_bounds HZ.out
      have hts0 : (exts R len).mergeSort (fun x y => decide (x ≤ y)) = extsS R len := rfl
      have hel0 : Lib.compact (extsS R len) = extsE R len := rfl
      have hEX := extL_len hz
      have hEG := fun j h => extL_get hz j h
      obtain ⟨zs, hzs⟩ : ∃ zs, zs = exts R len := ⟨_, rfl⟩
      obtain ⟨ts, hts⟩ : ∃ ts, ts = extsS R len := ⟨_, rfl⟩
      obtain ⟨E, hE⟩ : ∃ E, E = extsE R len := ⟨_, rfl⟩
      rw [← hzs] at hO hlen hts0
      rw [← hts] at hsl hbz hts0 hel0
      rw [← hE] at hel hbe hel0 hEX hEG
      clear hzl hzs hts hE
      obtain ⟨a', c', rfl⟩ := hO.form
      obtain ⟨g, rfl, hg, hgl⟩ := hO.at_ (by omega)
      obtain ⟨_, g', cur, e, _, hcell, hnc, hcm, hcs, hcv⟩ := hO.open (by omega)
      cases e
      have hH := holds_cells hcell hcv
      have hs := sort_int g 0 c' zs wr hH hgl (by omega)
      rw [hts0] at hs
      have hbs := fun q os => behind_sort (n := q) (os := os) (show ts.length = zs.length by omega) (fun x hx => by have := hbz x hx; omega) hO (by omega) hB.size
      have HS := Lib.hid hs
      have HBS := Lib.hid hbs
      have HB := Lib.hid hB
      have HBE := Lib.hid hbe
      have HEX := Lib.hid hEX
      have HEG := Lib.hid hEG
      have HC0 := Lib.hid hel0
      have HLEN := Lib.hid hlen
      have HSL := Lib.hid hsl
      have hzl : zs.length ≤ 21 := by omega
      have hzp : 0 < zs.length := by omega
      clear hlen hsl hs hbs hB hO hcell hcv hH hbz hbe hEX hEG hel0 hts0 hcs hk hke
      gi_wp2_with (first
        | (refine ⟨trivial, ?_⟩; gi_at_call 54; refine (callsIn_wide.2 HS.out).mono ?_; rintro e W4 ⟨rfl, hX4⟩; refine Hid.out ?_))
      refine Lib.hid ?_
      obtain ⟨q4, os4, hw4⟩ := hX4
      obtain ⟨hO4, hB4⟩ := HBS.out q4 os4
      rw [← hw4] at hO4 hB4
      clear hw4 HBS HS
      have htz : ts.length = zs.length := by have := HLEN.out; have := HSL.out; omega
      have hO4t : OwnN W.heap.size W4 (.slice (some ⟨g, 0, none⟩) ts.length c') ts := by rw [htz]; exact hO4
      obtain ⟨_, g', cur4, e, _, hcell, hnc4, hcm4, hcs4, hcv⟩ := hO4t.open (by rw [htz]; exact hzp)
      cases e
      have hH4 := holds_cells hcell hcv
      have hc := compact_int g 0 c' ts W4 hH4 (by omega) (by omega)
      rw [HC0.out, htz] at hc
      have hEl : E.length ≤ zs.length := by have := HLEN.out; omega
      have hbp := fun q => behind_put (n := q) (ts := E ++ List.replicate (zs.length - E.length) 0) (show (E ++ List.replicate (zs.length - E.length) 0).length = ts.length by rw [List.length_append, List.length_replicate, htz]; omega) (fun x hx => by
        rcases List.mem_append.1 hx with h | h
        · have := HBE.out x h; omega
        · have := (List.mem_replicate.1 h).2; omega) hO4t (by omega) (Nat.le_trans HB.out.size hB4.size)
      have HC := Lib.hid hc
      have HBP := Lib.hid hbp
      have HB4 := Lib.hid (HB.out.trans hB4)
      clear hc hbp hB4 hO4 hO4t hcell hcv hH4 hcs4 HB HC0
      gi_wp2_with (first
        | (refine ⟨trivial, ?_⟩; gi_at_call 55; refine (callsIn_wide.2 HC.out).mono ?_; rintro e W5 ⟨rfl, hX5⟩; refine Hid.out ?_))
      refine Lib.hid ?_
      obtain ⟨q5, hw5⟩ := hX5
      obtain ⟨hO5, hB5⟩ := HBP.out q5
      rw [← hw5] at hO5 hB5
      clear hw5 HBP HC
      obtain ⟨_, g', cs5, e, _, hR5, _, _, _, hcv5⟩ := hO5.open (by omega)
      cases e
      have HCS := Lib.hid (show ∀ j, j < E.length → cs5[j]? = some (.int .i64 (E.getD j 0)) from fun j hj => by
        rw [hcv5 j (by simp; omega)]
        simp [List.getD, List.getElem?_append_left hj])
      have HR5 := Lib.hid hR5
      have hbw5 := HB4.out.trans hB5
      have HJ5 := Lib.hid (HJ.out [] W W5 none H0.out ⟨hbw5.os, hbw5.tape, hbw5.output, hbw5.size, fun k hk _ => hbw5.block k hk⟩ (fun r e => by cases e))
      obtain ⟨EL, hEL⟩ : ∃ n, n = E.length := ⟨_, rfl⟩
      have hELb : EL ≤ 21 := by omega
      rw [← hEL]
      have HEL := Lib.hid hEL
      clear hO5 hB5 hcv5 hR5 hbw5 HB4 HJ H0 hEL hel hEl
      gi_wp2
      gi_loopw [27] (fun i wr2 => ∃ j : Nat, j ≤ EL ∧ i = .int .i64 j ∧ J ((extL hz).take j) wr2 ∧ KX W5 wr2) (fun i _ => (EL - intOf i).toNat)
      case atStart => exact ⟨0, Nat.zero_le _, rfl, by rw [List.take_zero]; exact HJ5.out, KX.refl _⟩
      case round =>
        obtain ⟨j, hj, rfl, hJs, hkx⟩ := hrel
        by_cases hlt2 : j < EL
        · have hlti : (j : Int) < EL := by omega
          have hjl : j < (extL hz).length := by rw [HEX.out, ← HEL.out]; exact hlt2
          have hv := HEG.out j hjl
          have hcj : wr.cell? ⟨g, j, none⟩ = some (.int .i64 (E.getD j 0)) := by
            have e1 := HCS.out j (by rw [← HEL.out]; exact hlt2)
            simp only [World.cell?, hkx g cs5 _ HR5.out]
            simpa using e1
          have htk : (extL hz).take (j + 1) = (extL hz).take j ++ [(extL hz)[j]] := by rw [List.take_succ_eq_append_getElem hjl]
          obtain ⟨fn, tmps, assign, body, hy, hR⟩ := HY.out _ (extL hz)[j] wr hJs (by rw [List.length_take]; omega)
          rw [← htk] at hR
          rw [hv] at hy
          obtain ⟨X, hX⟩ : ∃ X, X = E.getD j 0 := ⟨_, rfl⟩
          rw [← hX] at hy hcj
          have HRR := Lib.hid hR
          have HKX := Lib.hid hkx
          clear hR hkx hJs htk hv hX
          gi_wp2
          refine HRR.out.mono ?_
          rintro e W6 (⟨rfl, hJ6, hk6⟩ | ⟨rfl, hJx6⟩)
          · have HJ6 := Lib.hid hJ6
            have HK6 := Lib.hid (HKX.out.trans hk6)
            clear hJ6 hk6
            gi_wp2
            go_roundw
            case rel => exact ⟨j + 1, by omega, by go_num, HJ6.out, HK6.out⟩
            case measure => first | (simp [intOf]; done) | (simp [intOf]; omega)
          · gi_wp2
            refine bodyPost_ret (results_none rfl _ _ _) rfl ?_
            exact ⟨⟨_, rfl⟩, .inr ⟨_, List.take_prefix _ _, hJx6⟩⟩
        · have hje : j = EL := by omega
          have hnl2 : ¬ ((j : Int) < EL) := by omega
          have hfin : (extL hz).take j = extL hz := by rw [hje, HEL.out, ← HEX.out, List.take_length]
          rw [hfin] at hJs
          have HJs := Lib.hid hJs
          clear hJs hkx hfin hje
          gi_wp2
          go_end0
          first | exact ⟨⟨_, rfl⟩, .inl ⟨_, rfl, HJs.out⟩⟩ | exact ⟨⟨_, rfl⟩, .inl HJs.out⟩
theorem extrasOf_in (n : Nat) (off : Int) (a : Option Addr) (len cap : Nat) (w : World) :
    CallsIn Fence.wide n Tryd.prog 40 #[zoneV off a len cap] w fun e w' => e = .returned (.func (.func 53) #[] #[.pointer (some ⟨w.heap.size, 0, none⟩)]) ∧ w' = w.alloc (.cells #[.int .i64 off, .slice a len cap] 24) := by
  refine callsIn_of_wp Tryd.func40 rfl trivial ?_ rfl
  simp only [Tryd.ntmps40, List.size_toArray, List.length_cons, List.length_nil, Nat.reduceAdd, Nat.reduceSub, Array.replicate_succ, Array.replicate_zero, List.push_toArray, List.append_toArray, List.nil_append, List.cons_append]
  gi_wp2
  go_ret
  exact ⟨rfl, rfl⟩
theorem extras_stops (n : Nat) (hn : 1 ≤ n) (Bz : Nat) (off : Int) (a : Option Addr) (len cap : Nat) (R : Nat → Rl) (hz : ZoneIs off R len) (w0 : World)
    (hZ : w0.heap[Bz]? = some (.cells #[.int .i64 off, .slice a len cap] 24 (0, 0))) (hR : RulesAt w0.heap.size w0 a len R) :
    SeqStopsK Fence.wide n Tryd.prog 53 #[.pointer (some ⟨Bz, 0, none⟩)] encX KX (fun xs => xs = extL hz) (fun pre => pre <+: extL hz) (extL hz).length w0 := by
  intro l J Jx W hW hJ hJx hY h0
  exact extras1_in n hn l Bz off a len cap R hz J Jx hY W hJ ((hW.block Bz (Array.getElem?_eq_some_iff.1 hZ).1).trans hZ) ((hR.next hW).mono hW.size) h0
end Go.Proofs.YtobnlcmamnoefaaDoor
