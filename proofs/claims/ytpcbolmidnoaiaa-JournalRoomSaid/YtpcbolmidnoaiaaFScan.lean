/- Scan, Exact. -/
import Derived.Test.YtpcbolmidnoaiaaFWhy
set_option linter.unusedVariables false
set_option linter.unusedSimpArgs false
namespace Go.Proofs.Ytpcbolmidnoaiaa
open Go.RowKit Go.Shelf
attribute [local go_sem] Oper.semAt_some
theorem sizeN_app (l m : List (List Int)) : sizeN (l ++ m) = sizeN l + sizeN m := by simp [sizeN]
theorem sizeN_len : ∀ l : List (List Int), l.length ≤ sizeN l
  | [] => Nat.zero_le _
  | L :: l => by have := sizeN_len l; rw [sizeN_cons, List.length_cons]; omega
theorem items_map (b : Nat) : ∀ (ls : List (List Int)) (off : Nat) (rest : List Int), (itemsOf b off ls rest).map It.L = ls ∨ (itemsOf b off ls rest).map It.L = ls ++ [[]]
  | [], off, rest => by
    unfold itemsOf
    split
    · exact .inl rfl
    · exact .inr rfl
  | L :: ls, off, rest => by
    unfold itemsOf
    rcases items_map b ls (off + (6 + L.length)) rest with h | h
    · exact .inl (by rw [List.map_cons, h])
    · exact .inr (by rw [List.map_cons, h]; rfl)
theorem items_size {b off : Nat} {ls : List (List Int)} {rest xs : List Int} (h : Scans xs ls rest) {pre : List It} (hp : pre <+: itemsOf b off ls rest) : sizeN (pre.map It.L) ≤ xs.length + 6 := by
  obtain ⟨t, ht⟩ := hp
  have e := congrArg (List.map It.L) ht
  rw [List.map_append] at e
  have h1 := congrArg sizeN e
  rw [sizeN_app] at h1
  have h2 : sizeN ls ≤ xs.length := by
    have := congrArg List.length h.eq
    rw [List.length_append] at this
    unfold sizeN
    omega
  rcases items_map b ls off rest with q | q
  · rw [q] at h1; omega
  · rw [q, sizeN_app] at h1
    have : sizeN [[]] = 6 := by rw [sizeN_cons]; rfl
    omega
/-- Scan: the records of the frames, and how long these are. -/
def OwnS (w w' : World) (v : Value) (ls : List (List Int)) : Prop := ∃ rs, SlsAt w.heap.size w' v rs ∧ rs.map Sl.L = ls
def ScanE (ls : List (List Int)) (w : World) (e : Ending) (w' : World) : Prop := ∃ a c, e = .returned (.tuple #[.slice a ls.length c, .int .i64 (sizeN ls : Nat)]) ∧ ls.length ≤ c ∧ OwnS w w' (.slice a ls.length c) ls ∧ Below w.heap.size w w'
theorem results_sc {v : Value} {x : Int} {b c : Nat} {tmps : Array Value} {w : World} (h2 : tmps.getD 2 undef = .pointer (some ⟨b, 0, none⟩)) (h3 : tmps.getD 3 undef = .pointer (some ⟨c, 0, none⟩))
    (hb : w.heap[b]? = some (.cells #[v] 22 (0, 0))) (hc : w.heap[c]? = some (.cells #[.int .i64 x] 3 (0, 0))) : (results Try.f48 tmps).run Try.prog w = .ok (.tuple #[v, .int .i64 x]) w := by
  have c0 : w.cell? ⟨b, 0, none⟩ = some v := cell_of_row _ b 0 _ _ _ hb
  have c1 : w.cell? ⟨c, 0, none⟩ = some (.int .i64 x) := cell_of_row _ c 0 _ _ _ hc
  simp only [Array.getD_eq_getD_getElem?] at h2 h3
  simp [results, Try.results48, go_sem, h2, h3, c0, c1]
/-- What holds behind each round of Scan. -/
structure Sc (w : World) (base : Nat) (W : World) (Ls : List (List Int)) (rs : List Sl) (v : Value) : Prop where
  l : W.heap[w.heap.size]? = some (.cells #[v] 22 (0, 0))
  n : W.heap[w.heap.size + 1]? = some (.cells #[.int .i64 (sizeN Ls : Nat)] 3 (0, 0))
  s : SlsAt base W v rs
  is : rs.map Sl.L = Ls
  b : Below w.heap.size w W
def ScI (w : World) (base : Nat) (pre : List It) (W : World) : Prop := (∀ x ∈ pre, x.why = 0) ∧ ∃ rs v, Sc w base W (pre.map It.L) rs v
def ScX (w : World) (base : Nat) (pre : List It) (W : World) : Prop := ∃ q x, pre = q ++ [x] ∧ x.why ≠ 0 ∧ ∃ rs v, Sc w base W (q.map It.L) rs v
theorem Sc.grown {w : World} {base : Nat} {X Y : World} {Ls : List (List Int)} {rs : List Sl} {v : Value} {row : Option Nat} (h : Sc w base X Ls rs v) (hg : X.grownBy Y row) (hr : ∀ r, row = some r → w.heap.size + 2 ≤ r ∧ (r < base ∨ X.heap.size ≤ r)) : Sc w base Y Ls rs v := by
  refine ⟨(hg.block _ (Array.getElem?_eq_some_iff.1 h.l).1 (fun e => by have := hr _ e.symm; omega)).trans h.l, (hg.block _ (Array.getElem?_eq_some_iff.1 h.n).1 (fun e => by have := hr _ e.symm; omega)).trans h.n,
    h.s.keep (fun k h1 h2 => hg.block k h2 (fun e => by have := hr _ e.symm; omega)), h.is, h.b.trans ⟨hg.os, hg.tape, hg.output, hg.size, fun k hk => hg.block k (by have := h.b.size; omega) (fun e => by have := hr _ e.symm; omega)⟩⟩
theorem wrapI_nm (N m : Nat) (h : N + (6 + m) ≤ 1000006) : IntKind.i64.wrap ((N : Int) + (6 + (m : Int))) = (N : Int) + (6 + (m : Int)) := by
  simp [IntKind.wrap, IntKind.bits, IntKind.signed]; omega
theorem exec_app {P : Program} {o : Oper} {a : Act} {s x : Operand} {t : TypeId} {v y z : Value} {w w' : World} (ho : o.op = .call { callee := .builtin .append, args := #[s, x], argTypes := #[t, t] }) (hs : a.eval s = v) (hx : a.eval x = y)
    (hr : (Builtin.append_ #[t, t] o.type #[v, y]).run P w = .ok z w') : (execOp a.eval o).run P w = .ok (.value z) w' := by
  unfold execOp
  simp [ho, resolve, invoke, builtin, hs, hx, hr, Result.andThen]
set_option maxRecDepth 100000 in
set_option maxHeartbeats 4000000 in
theorem scan_any (a : Option Addr) (n c : Nat) (xs : List Int) (ls : List (List Int)) (rest : List Int) (w : World) (h : Bys8 w.heap.size w (.slice a n c) xs) (hc : n ≤ c) (hs : Scans xs ls rest) (hl : xs.length ≤ 1000000) :
    Calls Try.prog 48 #[.slice a n c] w (ScanE ls w) := by
  obtain ⟨b, off, hb, hv, hbn⟩ := boxv_of h hc
  have s1 : (w.alloc (.cells #[.slice none 0 0] 22)).heap.size = w.heap.size + 1 := World.size_alloc _ _
  have s2 : ((w.alloc (.cells #[.slice none 0 0] 22)).alloc (.cells #[.int .i64 0] 3)).heap.size = w.heap.size + 2 := by rw [World.size_alloc, s1]
  obtain ⟨X, hX⟩ : ∃ X, X = ((w.alloc (.cells #[.slice none 0 0] 22)).alloc (.cells #[.int .i64 0] 3)).alloc (.cells #[.slice a n c] 23) := ⟨_, rfl⟩
  have sX : X.heap.size = w.heap.size + 3 := by rw [hX, World.size_alloc, s2]
  have hBX : Below w.heap.size w X := by rw [hX]; exact (((Below.refl _ w).alloc (Nat.le_refl _) _).alloc (by rw [s1]; omega) _).alloc (by rw [s2]; omega) _
  have y0 : X.heap[w.heap.size]? = some (.cells #[.slice none 0 0] 22 (0, 0)) := by rw [hX]; exact (Below.heap_alloc _ _ _ (by rw [s2]; omega)).trans ((Below.heap_alloc _ _ _ (by rw [s1]; omega)).trans (World.alloc_heap_new w _))
  have y1 : X.heap[w.heap.size + 1]? = some (.cells #[.int .i64 0] 3 (0, 0)) := by
    rw [hX]; refine (Below.heap_alloc _ _ _ (by rw [s2]; omega)).trans ?_
    have := World.alloc_heap_new (w.alloc (.cells #[.slice none 0 0] 22)) (.cells #[.int .i64 0] 3); rwa [s1] at this
  have y2 : X.heap[w.heap.size + 2]? = some (.cells #[.slice a n c] 23 (0, 0)) := by
    rw [hX]; have := World.alloc_heap_new ((w.alloc (.cells #[.slice none 0 0] 22)).alloc (.cells #[.int .i64 0] 3)) (.cells #[.slice a n c] 23); rwa [s2] at this
  have hap := framesOf_in (6 - 1) a n c ((w.alloc (.cells #[.slice none 0 0] 22)).alloc (.cells #[.int .i64 0] 3))
  rw [s2] at hap
  have HAP := Lib.hid hap
  have HXX := Lib.hid hX
  have HX := Lib.hid (And.intro sX (And.intro hBX (And.intro y0 (And.intro y1 y2))))
  have HQ := Lib.hid (And.intro hb (And.intro hv (And.intro hs (And.intro hl (And.intro h hbn)))))
  clear h hc hs hl hb hv s1 sX hBX y0 y1 y2 hX s2 hap hbn
  refine (callsIn_wide (n := 6)).1 ?_
  refine callsIn_of_wp_marks Try.func48 rfl trivial ?_ rfl
  simp only [Try.ntmps48, List.size_toArray, List.length_cons, List.length_nil, Nat.reduceAdd, Nat.reduceSub, Array.replicate_succ, Array.replicate_zero, List.push_toArray, List.append_toArray, List.nil_append, List.cons_append]
  gi_wp2_with fail
  refine wpIn_scope_straight (wpIn_seq (wpIn_label ?_))
  gi_wp2_with fail
  refine ⟨trivial, ?_⟩
  refine HAP.out.mono ?_
  rintro e w' ⟨rfl, hw⟩
  obtain rfl : X = w' := HXX.out.trans hw.symm
  clear hw HXX HAP
  gi_wp2_with fail
  obtain ⟨sX, hBX, y0, y1, y2⟩ := HX.out
  obtain ⟨hb, hv, hs, hl, h, hbn⟩ := HQ.out
  refine wpIn_rangeFunc_brk (gf := 75) (lb := #[.pointer (some ⟨w.heap.size + 2, 0, none⟩)]) rfl (enters_of Try.func75 (by kernel_rfl) rfl)
    (itemsOf b off ls rest) encI (w.heap.size + 2) (by omega) (fun j => j = w.heap.size ∨ j = w.heap.size + 1) 0
    (frames_seq (6 - 1) (by omega) (w.heap.size + 2) b off (by omega) _ xs ls rest hs hl hv _ (fun j hj => ⟨by omega, by omega⟩) X y2 ((h.below hBX).mono (by omega))) (fun _ => rfl) (fun j hj => by omega)
    (ScI w (X.heap.size + 2)) (ScX w (X.heap.size + 2))
    (fun pre X' Y row hs' hg hr => let ⟨e1, rs, v, e2⟩ := hs'; ⟨e1, rs, v, e2.grown hg (fun r e => by have := hr r e; omega)⟩)
    (fun pre X' Y row hs' hg hr => let ⟨q, x, e0, e1, rs, v, e2⟩ := hs'; ⟨q, x, e0, e1, rs, v, e2.grown hg (fun r e => by have := hr r e; omega)⟩)
    ⟨(fun x hx => by cases hx), [], _, y0, y1, SlsAt.nil _ _, rfl, hBX⟩
    (fun pre x a₁ W => a₁ = { tmps := #[.slice a n c, undef, .pointer (some ⟨w.heap.size, 0, none⟩), .pointer (some ⟨w.heap.size + 1, 0, none⟩), x.v, .int .i64 (x.why : Nat), .slice a n c, .func (.func 75) #[] #[.pointer (some ⟨w.heap.size + 2, 0, none⟩)], x.v, .int .i64 (x.why : Nat), undef, undef, undef, undef, undef, undef, undef, undef, undef, undef, undef, undef, undef], defers := [] })
    (fun pre x a₁ X' Y row hs hg hr => hs)
    ?assign ?body ?done ?stop
  case assign =>
    intro l pre x W K hsz hpre hI hK
    unfold encI
    gi_wp2
    exact hK _ _ (Only.refl _ _ _) hI rfl
  case body =>
    rintro l pre x a₁ W hsz hpre ⟨hall, rs, v, hsc⟩ rfl
    by_cases hy : x.why = 0
    · have hxi : x ∈ itemsOf b off ls rest := hpre.subset (by simp)
      have hxn : xs ≠ [] := fun e => by
        rw [e] at hs
        obtain ⟨rfl, rfl⟩ := scans_nil hs
        simp [itemsOf] at hxi
      obtain ⟨ha, hn⟩ := hbn hxn
      have hbx : Bys8 w.heap.size w (.slice (some ⟨b, off, none⟩) xs.length c) xs := by rw [← ha, ← hn]; exact h
      obtain ⟨⟨xa, hxv⟩, hxb, hxr⟩ := items_bys b ls off rest xs c hs hbx x hxi hy
      have hsz6 := items_size hs hpre
      obtain ⟨la, lc, hlv, _⟩ := hsc.s.form
      obtain ⟨L, hL⟩ : ∃ L, x.L = L := ⟨_, rfl⟩
      obtain ⟨m, hm⟩ : ∃ m, L.length = m := ⟨_, rfl⟩
      rw [hL] at hxv hxb hxr
      rw [hm] at hxv
      rw [hxv] at hxb
      have hmr : 1 ≤ m ∧ m ≤ 4096 := by rw [← hm]; exact hxr
      rw [List.map_append, List.map_cons, List.map_nil, hL, sizeN_app, sizeN_cons, hm] at hsz6
      have hz0 : sizeN [] = 0 := rfl
      obtain ⟨N, hN⟩ : ∃ N, sizeN (pre.map It.L) = N := ⟨_, rfl⟩
      have hN6 : N + (6 + m) ≤ 1000006 := by omega
      obtain ⟨ll, hll⟩ : ∃ ll, rs.length = ll := ⟨_, rfl⟩
      have hlen : rs.length ≤ 10000000 := by
        have h1 := congrArg List.length hsc.is
        rw [List.length_map] at h1
        have := sizeN_len (pre.map It.L)
        omega
      subst hlv
      rw [hll] at hsc
      obtain ⟨d2, d3, d4, d5, d6⟩ := hsc
      rw [hN] at d3
      have c2 : W.drew.cell? ⟨w.heap.size, 0, none⟩ = some (.slice la ll lc) := cell_of_row W.drew w.heap.size 0 _ _ _ d2
      have q1 : (fun Z : World => Z.cell? ⟨w.heap.size, 0, none⟩ = some (.slice la ll lc)) W.drew := c2
      have HS2 := Lib.hid (show ∀ Z, Below W.heap.size W.drew Z → (fun Z : World => Z.cell? ⟨w.heap.size, 0, none⟩ = some (.slice la ll lc)) Z from fun Z hZ => (hZ.cell (p := ⟨w.heap.size, 0, none⟩) (by show w.heap.size < W.heap.size; omega)).trans c2)
      have hCL := clone_any xa m m L W.drew (hxb.below (below_drewN d6 1)) (by show w.heap.size ≤ W.heap.size; omega) (by omega)
      unfold Made at hCL
      rw [hm] at hCL
      have HCL := Lib.hid (show Calls Try.prog 32 #[.slice xa m m] W.drew (fun e w' => ∃ a c, e = .returned (.slice a m c) ∧ Own8 W.heap.size w' (.slice a m c) L ∧ Below W.heap.size W.drew w') from hCL)
      have HSZ := Lib.hid (fun (W : World) => show Calls Try.prog 31 #[.slice xa m m] W (fun e w' => e = .returned (.int .i64 (6 + (m : Int))) ∧ W = w') from by
        have := size_any xa m m W
        rw [show ((sizeE m : Nat) : Int) = 6 + (m : Int) by unfold sizeE; rw [if_pos hmr]; omega] at this
        exact this)
      have HAD := Lib.hid (show IntKind.i64.wrap ((N : Int) + (6 + (m : Int))) = (N : Int) + (6 + (m : Int)) from wrapI_nm N m (by omega))
      have HPU := Lib.hid (show ∀ (Z : World) (a2 : Option Addr) (c2 : Nat), Own8 W.heap.size Z (.slice a2 m c2) L → Below W.heap.size W.drew Z → ∃ v' w', (Builtin.append_ #[22, 22] 22 #[.slice la ll lc, .slice (some ⟨Z.heap.size, 0, none⟩) 1 1]).run Try.prog (Z.alloc (.cells #[.slice a2 m c2] 23)) = .ok v' w' ∧ SlsAt (X.heap.size + 2) w' v' (rs ++ [Sl.mk a2 c2 L]) ∧ (Z.alloc (.cells #[.slice a2 m c2] 23)).grownBy w' (Value.slice la ll lc).ownBlock from by
        intro Z a2 c2 hO hB
        have hlen := hlen
        have hZ1 : Below W.heap.size W.drew (Z.alloc (.cells #[.slice a2 m c2] 23)) := hB.alloc hB.size _
        refine run_push (X.heap.size + 2) _ _ _ rs (d4.below (W := W) ((below_drewN (Below.refl _ W) 1).trans hZ1) (Nat.le_refl _)) (Sl.mk a2 c2 L) ?_ Z.heap.size ?_ hlen ?_
        · show Own8 _ _ (.slice a2 L.length c2) L
          rw [hm]
          exact (hO.below ((Below.refl Z.heap.size Z).alloc (Nat.le_refl _) _) (Nat.le_refl _)).le (by omega)
        · show _ = some (Value.slice a2 L.length c2)
          rw [hm]
          exact cell_of_row _ Z.heap.size 0 _ _ _ (World.alloc_heap_new Z _)
        · have := hZ1.size
          show X.heap.size + 2 ≤ _
          exact Nat.le_trans hsz this)
      have HFI := Lib.hid (show ∀ (Z : World) (a2 : Option Addr) (c2 : Nat) (la2 : Option Addr) (lc2 : Nat) (Z2 : World), Below W.heap.size W.drew (Z.alloc (.cells #[.slice a2 m c2] 23)) → SlsAt (X.heap.size + 2) Z2 (.slice la2 (ll + 1) lc2) (rs ++ [Sl.mk a2 c2 L]) → (Z.alloc (.cells #[.slice a2 m c2] 23)).grownBy Z2 (Value.slice la ll lc).ownBlock →
          (fun Z : World => Z.cell? ⟨w.heap.size, 0, none⟩ = some (.slice la ll lc)) Z2 ∧ Z2.frozen? ⟨w.heap.size, 0, none⟩ = false ∧ Only (X.heap.size + 2) (fun j => j = w.heap.size ∨ j = w.heap.size + 1) W Z2 ∧ Z2.heap[w.heap.size]? = some (.cells #[.slice la ll lc] 22 (0, 0)) ∧ Z2.heap[w.heap.size + 1]? = some (.cells #[.int .i64 (N : Nat)] 3 (0, 0)) ∧ Below w.heap.size w Z2 ∧ X.heap.size + 2 ≤ Z2.heap.size from by
        intro Z a2 c2 la2 lc2 Z2 hB hS hG
        have hbk := d4.blk
        have hk : ∀ k, k < X.heap.size + 2 → Z2.heap[k]? = W.heap[k]? := fun k hk => by
          have h1 := hB.block k (by omega)
          exact (hG.block k (by have := hB.size; have : W.drew.heap.size = W.heap.size := rfl; omega) (fun e => by have := hbk k e.symm; omega)).trans h1
        have hsz2 : W.heap.size ≤ Z2.heap.size := Nat.le_trans (show W.heap.size ≤ _ from hB.size) hG.size
        have e0 := (hk w.heap.size (by omega)).trans d2
        have e1 := (hk (w.heap.size + 1) (by omega)).trans d3
        refine ⟨cell_of_row _ _ 0 _ _ _ e0, frozen_of_row _ _ 0 _ _ e0, ⟨hsz2, fun k hk' _ => hk k hk'⟩, e0, e1, ?_, Nat.le_trans hsz hsz2⟩
        refine ⟨hG.os.trans (hB.os.trans d6.os), hG.tape.trans (hB.tape.trans ?_), hG.output.trans (hB.output.trans d6.output), Nat.le_trans d6.size hsz2, fun k hk' => (hk k (by omega)).trans (d6.block k hk')⟩
        exact d6.tape)
      have HD := Lib.hid (And.intro d5 (And.intro hall (And.intro hy (And.intro hL (And.intro hm (And.intro hN hll))))))
      have HSX := Lib.hid sX
      have iy : ((x.why : Int) != 0) = false := by rw [hy]; rfl
      rw [hxv]
      rw [hy] at iy ⊢
      clear hxi hxn ha hn hbx hxb hxr hsz6 hz0 hN6 hlen d2 d3 d4 d5 d6 hCL c2 hall hmr sX hBX y0 y1 y2 hb hv hs hl h hbn hpre hsz hxv
      gi_wp2_with fail
      refine regionLIn (fun Z : World => Z.cell? ⟨w.heap.size, 0, none⟩ = some (.slice la ll lc)) 5 (by kernel_rfl) (by kernel_rfl) ?_
      refine takeL (i := 0) (oi := { dst := some 12, op := Go.Op.load 22 (Go.Operand.tmp 2), type := 22, pos := "frame.go:96", after := #[], guard := none }) (v := .slice la ll lc) [5, 4] rfl (by kernel_rfl) (by kernel_rfl) (by kernel_rfl) (by kernel_rfl) (fun _ _ _ h => only_panic h) rfl ?_ q1 ?_
      · intro Z hZ; have k : Z.cell? ⟨w.heap.size, 0, none⟩ = some (.slice la ll lc) := hZ; go_simp
      simp only [Act.put, List.setIfInBounds_toArray, List.set_cons_zero, List.set_cons_succ]
      refine takeL (i := 1) (oi := { dst := some 13, op := Go.Op.move (Go.Operand.tmp 4), type := 23, pos := "frame.go:96", after := #[], guard := none }) (v := .slice xa m m) [5, 4, 3, 2] rfl (by kernel_rfl) (by kernel_rfl) (by kernel_rfl) (by kernel_rfl) (fun _ _ _ h => only_panic h) rfl ?_ q1 ?_
      · intro Z hZ; go_simp
      simp only [Act.put, List.setIfInBounds_toArray, List.set_cons_zero, List.set_cons_succ]
      refine oneL (i := 2) (o := { dst := some 14, op := Go.Op.call { callee := Go.Callee.value (Go.Operand.func 32), args := #[Go.Operand.tmp 13], argTypes := #[23] }, type := 23, pos := "frame.go:96", after := #[{ on := 1, ground := Go.Ground.data }], guard := none }) rfl (by kernel_rfl) rfl ?_
      refine wp_by_call (f := 32) (args := #[.slice xa m m]) (by go_simp) (HCL.out.mono ?_)
      rintro e Z ⟨a2, c2, rfl, hO2, hB2⟩
      have qZ := HS2.out Z hB2
      have hB3 : Below W.heap.size W.drew (Z.alloc (.cells #[.slice a2 m c2] 23)) := hB2.alloc hB2.size _
      have qZ1 := HS2.out _ hB3
      refine ⟨_, rfl, (fun _ => qZ), ?_⟩
      simp only [Act.put, List.setIfInBounds_toArray, List.set_cons_zero, List.set_cons_succ]
      refine oneL (i := 3) (o := { dst := some 15, op := Go.Op.buildSlice 22 1 #[(0, Go.Operand.tmp 14)], type := 22, pos := "frame.go:96", after := #[{ on := 2, ground := Go.Ground.data }], guard := none }) rfl (by kernel_rfl) rfl ?_
      refine wp_by_run (w' := Z.alloc (.cells #[.slice a2 m c2] 23)) (v := .slice (some ⟨Z.heap.size, 0, none⟩) 1 1) (by go_simp) ⟨fun _ => qZ1, ?_⟩
      simp only [Act.put, List.setIfInBounds_toArray, List.set_cons_zero, List.set_cons_succ]
      obtain ⟨v', Z2, hrun, hS2, hG2⟩ := HPU.out Z a2 c2 hO2 hB2
      obtain ⟨la2, lc2, rfl, _⟩ := hS2.form
      rw [show (rs ++ [Sl.mk a2 c2 L]).length = ll + 1 by rw [List.length_append, HD.out.2.2.2.2.2.2]; rfl] at hrun hS2
      have HFIN := Lib.hid (HFI.out Z a2 c2 la2 lc2 Z2 hB3 hS2 hG2)
      have qZ2 := HFIN.out.1
      refine oneL (i := 4) (o := { dst := some 16, op := Go.Op.call { callee := Go.Callee.builtin Go.Builtin.append, args := #[Go.Operand.tmp 12, Go.Operand.tmp 15], argTypes := #[22, 22] }, type := 22, pos := "frame.go:96", after := #[{ on := 0, ground := Go.Ground.data }, { on := 3, ground := Go.Ground.data }, { on := 2, ground := Go.Ground.chain }], guard := none }) rfl (by kernel_rfl) rfl ?_
      refine wp_by_run (w' := Z2) (v := .slice la2 (ll + 1) lc2) (exec_app rfl rfl rfl hrun) ⟨fun _ => qZ2, ?_⟩
      simp only [Act.put, List.setIfInBounds_toArray, List.set_cons_zero, List.set_cons_succ]
      have fz := HFIN.out.2.1
      refine oneL (i := 5) (o := { dst := none, op := Go.Op.store 22 (Go.Operand.tmp 2) (Go.Operand.tmp 16), type := 0, pos := "frame.go:96", after := #[{ on := 4, ground := Go.Ground.data }, { on := 4, ground := Go.Ground.chain }, { on := 0, ground := Go.Ground.phase }, { on := 1, ground := Go.Ground.phase }, { on := 2, ground := Go.Ground.phase }, { on := 3, ground := Go.Ground.phase }, { on := 4, ground := Go.Ground.phase }], guard := none }) rfl (by kernel_rfl) rfl ?_
      refine wp_by_skip (w' := Z2.setCell ⟨w.heap.size, 0, none⟩ (.slice la2 (ll + 1) lc2)) (by go_simp) ⟨fun h => absurd rfl h, ?_⟩
      simp only [Act.put, List.setIfInBounds_toArray, List.set_cons_zero, List.set_cons_succ]
      refine doneL (by kernel_rfl) (⟨rfl, ?_⟩) _
      have HY0 := Lib.hid (show ∃ Y, Y = Z2.setCell ⟨w.heap.size, 0, none⟩ (.slice la2 (ll + 1) lc2) from ⟨_, rfl⟩)
      obtain ⟨Y, hY⟩ := HY0.out
      have hnl : (rs ++ [Sl.mk a2 c2 L]).length = ll + 1 := by rw [List.length_append, HD.out.2.2.2.2.2.2]; rfl
      have hfin : Only (X.heap.size + 2) (fun j => j = w.heap.size ∨ j = w.heap.size + 1) W Y ∧ Y.heap[w.heap.size]? = some (.cells #[.slice la2 (ll + 1) lc2] 22 (0, 0)) ∧ Y.heap[w.heap.size + 1]? = some (.cells #[.int .i64 (N : Nat)] 3 (0, 0)) ∧ Below w.heap.size w Y ∧ SlsAt (X.heap.size + 2) Y (.slice la2 (ll + 1) lc2) (rs ++ [Sl.mk a2 c2 L]) := by
        obtain ⟨_, _, f1, f2, f3, f4, f5⟩ := HFIN.out
        have hx := HSX.out
        rw [hY]
        refine ⟨f1.setCell ⟨w.heap.size, 0, none⟩ (.inl rfl) _, heap_setCell_same _ _ _ _ _ _ f2, (heap_setCell_other _ _ _ _ (by simp)).trans f3, f4.setCell (p := ⟨w.heap.size, 0, none⟩) (Nat.le_refl _) _, hS2.keep (fun k h1 h2 => heap_setCell_other Z2 ⟨w.heap.size, 0, none⟩ k _ (by show k ≠ w.heap.size; omega))⟩
      have qa : (fun Z : World => Z.cell? ⟨w.heap.size + 1, 0, none⟩ = some (.int .i64 (N : Nat))) Y.drew := cell_of_row Y.drew _ 0 _ _ _ hfin.2.2.1
      have fa : Y.drew.frozen? ⟨w.heap.size + 1, 0, none⟩ = false := frozen_of_row Y.drew _ 0 _ _ hfin.2.2.1
      have HEND := Lib.hid (show brkPost (X.heap.size + 2) (fun j => j = w.heap.size ∨ j = w.heap.size + 1) 0 (ScI w (X.heap.size + 2) (pre ++ [x])) (ScX w (X.heap.size + 2) (pre ++ [x])) W .normal { tmps := #[], defers := [] } (Y.drew.setCell ⟨w.heap.size + 1, 0, none⟩ (.int .i64 ((N + (6 + m) : Nat) : Int))) from by
        obtain ⟨f1, f2, f3, f4, f5⟩ := hfin
        obtain ⟨d5, hall, hy, hL, hm, hN, hll⟩ := HD.out
        have hx := HSX.out
        have f1' : Only (X.heap.size + 2) (fun j => j = w.heap.size ∨ j = w.heap.size + 1) W Y.drew := ⟨f1.size, f1.block⟩
        refine ⟨f1'.setCell ⟨w.heap.size + 1, 0, none⟩ (.inr rfl) _, ?_, rs ++ [Sl.mk a2 c2 L], _, (heap_setCell_other Y.drew ⟨w.heap.size + 1, 0, none⟩ w.heap.size _ (by simp)).trans f2, ?_, (f5.keep (X := Y.drew.setCell ⟨w.heap.size + 1, 0, none⟩ (.int .i64 ((N + (6 + m) : Nat) : Int))) (fun k h1 h2 => heap_setCell_other Y.drew ⟨w.heap.size + 1, 0, none⟩ k _ (by show k ≠ w.heap.size + 1; omega))), ?_, (below_drewN f4 1).setCell (p := ⟨w.heap.size + 1, 0, none⟩) (Nat.le_succ _) _⟩
        · intro y hy'
          rcases List.mem_append.1 hy' with q | q
          · exact hall y q
          · rw [List.mem_singleton.1 q]; exact hy
        · rw [List.map_append, List.map_cons, List.map_nil, hL, sizeN_app, sizeN_cons, hm, hN]
          exact heap_setCell_same Y.drew _ 0 _ _ _ f3
        · rw [List.map_append, List.map_append, d5, List.map_cons, List.map_nil, List.map_cons, List.map_nil, hL])
      have HY := Lib.hid hY
      rw [← hY]
      clear hfin HFIN qZ qZ1 qZ2 fz hO2 hB2 hB3 hrun hS2 hG2 q1 hY
      gi_wp2_with fail
      refine regionLIn (fun Z : World => Z.cell? ⟨w.heap.size + 1, 0, none⟩ = some (.int .i64 (N : Nat))) 4 (by kernel_rfl) (by kernel_rfl) ?_
      refine takeL (i := 0) (oi := { dst := some 17, op := Go.Op.load 3 (Go.Operand.tmp 3), type := 3, pos := "frame.go:97", after := #[], guard := none }) (v := .int .i64 (N : Nat)) [4, 3] rfl (by kernel_rfl) (by kernel_rfl) (by kernel_rfl) (by kernel_rfl) (fun _ _ _ h => only_panic h) rfl ?_ qa ?_
      · intro Z hZ; have k : Z.cell? ⟨w.heap.size + 1, 0, none⟩ = some (.int .i64 (N : Nat)) := hZ; go_simp
      simp only [Act.put, List.setIfInBounds_toArray, List.set_cons_zero, List.set_cons_succ]
      refine takeL (i := 1) (oi := { dst := some 18, op := Go.Op.move (Go.Operand.tmp 4), type := 23, pos := "frame.go:97", after := #[], guard := none }) (v := .slice xa m m) [4, 3, 2] rfl (by kernel_rfl) (by kernel_rfl) (by kernel_rfl) (by kernel_rfl) (fun _ _ _ h => only_panic h) rfl ?_ qa ?_
      · intro Z hZ; go_simp
      simp only [Act.put, List.setIfInBounds_toArray, List.set_cons_zero, List.set_cons_succ]
      refine oneL (i := 2) (o := { dst := some 19, op := Go.Op.call { callee := Go.Callee.value (Go.Operand.func 31), args := #[Go.Operand.tmp 18], argTypes := #[23] }, type := 3, pos := "frame.go:97", after := #[{ on := 1, ground := Go.Ground.data }], guard := none }) rfl (by kernel_rfl) rfl ?_
      refine wp_by_call (f := 31) (args := #[.slice xa m m]) (by go_simp) ((HSZ.out _).mono ?_)
      rintro e Z ⟨rfl, rfl⟩
      refine ⟨_, rfl, (fun _ => qa), ?_⟩
      simp only [Act.put, List.setIfInBounds_toArray, List.set_cons_zero, List.set_cons_succ]
      refine oneL (i := 3) (o := { dst := some 20, op := Go.Op.binOp Go.BinOp.add 3 (Go.Operand.tmp 17) (Go.Operand.tmp 19) 3, type := 3, pos := "frame.go:97", after := #[{ on := 0, ground := Go.Ground.data }, { on := 2, ground := Go.Ground.data }], guard := none }) rfl (by kernel_rfl) rfl ?_
      refine wp_by_run (w' := Y.drew) (v := .int .i64 ((N + (6 + m) : Nat) : Int)) (by have e := HAD.out; go_simp) ⟨fun _ => qa, ?_⟩
      simp only [Act.put, List.setIfInBounds_toArray, List.set_cons_zero, List.set_cons_succ]
      refine oneL (i := 4) (o := { dst := none, op := Go.Op.store 3 (Go.Operand.tmp 3) (Go.Operand.tmp 20), type := 0, pos := "frame.go:97", after := #[{ on := 3, ground := Go.Ground.data }, { on := 2, ground := Go.Ground.chain }, { on := 0, ground := Go.Ground.phase }, { on := 1, ground := Go.Ground.phase }, { on := 2, ground := Go.Ground.phase }, { on := 3, ground := Go.Ground.phase }], guard := none }) rfl (by kernel_rfl) rfl ?_
      refine wp_by_skip (w' := Y.drew.setCell ⟨w.heap.size + 1, 0, none⟩ (.int .i64 ((N + (6 + m) : Nat) : Int))) (by go_simp) ⟨fun h => absurd rfl h, ?_⟩
      simp only [Act.put, List.setIfInBounds_toArray, List.set_cons_zero, List.set_cons_succ]
      refine doneL (by kernel_rfl) (⟨rfl, ?_⟩) _
      exact HEND.out
    · have iy : ((x.why : Int) != 0) = true := by simp; omega
      have HEND := Lib.hid (show brkPost (X.heap.size + 2) (fun j => j = w.heap.size ∨ j = w.heap.size + 1) 0 (ScI w (X.heap.size + 2) (pre ++ [x])) (ScX w (X.heap.size + 2) (pre ++ [x])) W (.exit 0) { tmps := #[], defers := [] } W from
        ⟨rfl, Only.refl _ _ _, pre, x, rfl, hy, rs, v, hsc⟩)
      clear hall hsc hy hpre hsz sX hBX y0 y1 y2 hb hv hs hl h hbn
      gi_wp2
      exact HEND.out
  case done =>
    rintro D W hD ⟨hall, rs, v, hsc⟩ hK
    obtain ⟨_, hls⟩ := items_done b ls off rest hs.tail hall
    rw [hls] at hsc
    obtain ⟨d2, d3, d4, d5, d6⟩ := hsc
    obtain ⟨la, lc, rfl, hlc⟩ := d4.form
    obtain ⟨ll, hll⟩ : ∃ ll, rs.length = ll := ⟨_, rfl⟩
    have hlls : ls.length = ll := by rw [← d5, List.length_map]; exact hll
    rw [hll] at d2 d4 hlc
    obtain ⟨N, hN⟩ : ∃ N, sizeN ls = N := ⟨_, rfl⟩
    rw [hN] at d3
    have k0 := cell_of_row W.drew w.heap.size 0 _ _ _ d2
    have k1 := cell_of_row W.drew (w.heap.size + 1) 0 _ _ _ d3
    have g0 := heap_setCell_same W.drew w.heap.size 0 _ _ (.slice la ll lc) d2
    have g1 : (W.drew.setCell ⟨w.heap.size, 0, none⟩ (.slice la ll lc)).heap[w.heap.size + 1]? = _ := (heap_setCell_other W.drew ⟨w.heap.size, 0, none⟩ (w.heap.size + 1) _ (by simp)).trans d3
    have k2 := cell_of_row _ w.heap.size 0 _ _ _ g0
    have k3 := cell_of_row _ (w.heap.size + 1) 0 _ _ _ g1
    have q1 : (fun Z : World => Z.cell? ⟨w.heap.size, 0, none⟩ = some (.slice la ll lc) ∧ Z.cell? ⟨w.heap.size + 1, 0, none⟩ = some (.int .i64 (N : Nat))) W.drew := ⟨k0, k1⟩
    have q2 : (fun Z : World => Z.cell? ⟨w.heap.size, 0, none⟩ = some (.slice la ll lc) ∧ Z.cell? ⟨w.heap.size + 1, 0, none⟩ = some (.int .i64 (N : Nat))) (W.drew.setCell ⟨w.heap.size, 0, none⟩ (.slice la ll lc)) := ⟨k2, k3⟩
    have f0 := frozen_of_row W.drew w.heap.size 0 _ _ d2
    have kw0 : W.cell? ⟨w.heap.size, 0, none⟩ = some (.slice la ll lc) := cell_of_row W w.heap.size 0 _ _ _ d2
    have kw1 : W.cell? ⟨w.heap.size + 1, 0, none⟩ = some (.int .i64 (N : Nat)) := cell_of_row W (w.heap.size + 1) 0 _ _ _ d3
    have fw0 := frozen_of_row W w.heap.size 0 _ _ d2
    have fw1 := frozen_of_row W (w.heap.size + 1) 0 _ _ d3
    have f1 := frozen_of_row _ (w.heap.size + 1) 0 _ _ g1
    have e0 := heap_setCell_same _ (w.heap.size + 1) 0 _ _ (.int .i64 (N : Nat)) g1
    have e1 := (heap_setCell_other (W.drew.setCell ⟨w.heap.size, 0, none⟩ (.slice la ll lc)) ⟨w.heap.size + 1, 0, none⟩ w.heap.size (.int .i64 (N : Nat)) (by simp)).trans g0
    have hks : ∀ k, k ≠ w.heap.size → k ≠ w.heap.size + 1 → ((W.drew.setCell ⟨w.heap.size, 0, none⟩ (.slice la ll lc)).setCell ⟨w.heap.size + 1, 0, none⟩ (.int .i64 (N : Nat))).heap[k]? = W.heap[k]? := fun k h1 h2 =>
      (heap_setCell_other _ ⟨w.heap.size + 1, 0, none⟩ k _ h2).trans (heap_setCell_other W.drew ⟨w.heap.size, 0, none⟩ k _ h1)
    have hB9 : Below w.heap.size w ((W.drew.setCell ⟨w.heap.size, 0, none⟩ (.slice la ll lc)).setCell ⟨w.heap.size + 1, 0, none⟩ (.int .i64 (N : Nat))) := ((below_drewN d6 1).setCell (p := ⟨w.heap.size, 0, none⟩) (Nat.le_refl _) _).setCell (p := ⟨w.heap.size + 1, 0, none⟩) (Nat.le_succ _) _
    have hS9 : SlsAt (X.heap.size + 2) ((W.drew.setCell ⟨w.heap.size, 0, none⟩ (.slice la ll lc)).setCell ⟨w.heap.size + 1, 0, none⟩ (.int .i64 (N : Nat))) (.slice la ll lc) rs := d4.keep (fun k h1 h2 => hks k (by omega) (by omega))
    have hK9 := (hks D (by omega) (by omega)).trans hK
    obtain ⟨V, hV⟩ : ∃ V, V = (W.drew.setCell ⟨w.heap.size, 0, none⟩ (.slice la ll lc)).setCell ⟨w.heap.size + 1, 0, none⟩ (.int .i64 (N : Nat)) := ⟨_, rfl⟩
    rw [← hV] at e0 e1 hB9 hS9 hK9
    have hVs : ∀ o, ScanE ls w (.returned (.tuple #[.slice la ll lc, .int .i64 (N : Nat)])) (V.putObj D o) := fun o => by
      refine ⟨la, lc, by rw [hlls, hN], by omega, ?_, ?_⟩
      · have hp : SlsAt (X.heap.size + 2) (V.putObj D o) (.slice la ll lc) rs := hS9.keep (fun k h1 h2 => World.putObj_heap_other (by omega))
        rw [hlls]
        exact ⟨rs, hp.le (by omega), d5⟩
      · exact ⟨hB9.os, hB9.tape, hB9.output, by simpa using hB9.size, fun k hk => (World.putObj_heap_other (by omega)).trans (hB9.block k hk)⟩
    have HEND := Lib.hid (And.intro hK9 (And.intro hVs (show ∀ o, (V.putObj D o).heap[w.heap.size]? = some (.cells #[.slice la ll lc] 22 (0, 0)) ∧ (V.putObj D o).heap[w.heap.size + 1]? = some (.cells #[.int .i64 (N : Nat)] 3 (0, 0)) from fun o => ⟨(World.putObj_heap_other (by omega)).trans e1, (World.putObj_heap_other (by omega)).trans e0⟩)))
    have HV := Lib.hid hV
    clear d2 d3 d4 d5 d6 hlc hll hlls hN k0 k1 k2 k3 g0 g1 e0 e1 hks hB9 hS9 hK9 hVs hV hK hD sX hBX y0 y1 y2 hb hv hs hl h hbn hls
    gi_wp2_with fail
    refine regionLIn0 (fun Z : World => Z.cell? ⟨w.heap.size, 0, none⟩ = some (.slice la ll lc) ∧ Z.cell? ⟨w.heap.size + 1, 0, none⟩ = some (.int .i64 (N : Nat))) 3 (by kernel_rfl) (by kernel_rfl) ?_
    refine takeL (i := 0) (oi := { dst := some 21, op := Go.Op.load 22 (Go.Operand.tmp 2), type := 22, pos := "frame.go:99", after := #[], guard := none }) (v := .slice la ll lc) [3, 2] rfl (by kernel_rfl) (by kernel_rfl) (by kernel_rfl) (by kernel_rfl) (fun _ _ _ h => only_panic h) rfl ?_ q1 ?_
    · intro Z hZ; have k := hZ.1; go_simp
    simp only [Act.put, List.setIfInBounds_toArray, List.set_cons_zero, List.set_cons_succ]
    refine takeL (i := 1) (oi := { dst := some 22, op := Go.Op.load 3 (Go.Operand.tmp 3), type := 3, pos := "frame.go:99", after := #[], guard := none }) (v := .int .i64 (N : Nat)) [3] rfl (by kernel_rfl) (by kernel_rfl) (by kernel_rfl) (by kernel_rfl) (fun _ _ _ h => only_panic h) rfl ?_ q1 ?_
    · intro Z hZ; have k := hZ.2; go_simp
    simp only [Act.put, List.setIfInBounds_toArray, List.set_cons_zero, List.set_cons_succ]
    obtain ⟨k0, k1⟩ := q1
    refine oneL (i := 2) (o := { dst := none, op := Go.Op.store 22 (Go.Operand.tmp 2) (Go.Operand.tmp 21), type := 0, pos := "frame.go:99", after := #[{ on := 0, ground := Go.Ground.data }, { on := 0, ground := Go.Ground.phase }, { on := 1, ground := Go.Ground.textOnly Go.Departure.inlinedCapture }], guard := none }) rfl (by kernel_rfl) rfl ?_
    refine wp_by_skip (w' := W.drew.setCell ⟨w.heap.size, 0, none⟩ (.slice la ll lc)) (by go_simp) ⟨fun _ => q2, ?_⟩
    simp only [Act.put, List.setIfInBounds_toArray, List.set_cons_zero, List.set_cons_succ]
    obtain ⟨k2, k3⟩ := q2
    refine oneL (i := 3) (o := { dst := none, op := Go.Op.store 3 (Go.Operand.tmp 3) (Go.Operand.tmp 22), type := 0, pos := "frame.go:99", after := #[{ on := 1, ground := Go.Ground.data }, { on := 2, ground := Go.Ground.chain }, { on := 0, ground := Go.Ground.phase }, { on := 1, ground := Go.Ground.phase }, { on := 2, ground := Go.Ground.phase }], guard := none }) rfl (by kernel_rfl) rfl ?_
    refine wp_by_skip (w' := (W.drew.setCell ⟨w.heap.size, 0, none⟩ (.slice la ll lc)).setCell ⟨w.heap.size + 1, 0, none⟩ (.int .i64 (N : Nat))) (by go_simp) ⟨fun h => absurd rfl h, ?_⟩
    simp only [Act.put, List.setIfInBounds_toArray, List.set_cons_zero, List.set_cons_succ]
    refine doneL (by kernel_rfl) (⟨rfl, ?_⟩) _
    rw [← HV.out]
    gi_wp2
    rw [Exit.noGoto_ret]
    refine ⟨by simp, .inl ⟨_, _, rfl, run_takeDeferred HEND.out.1, ?_⟩⟩
    exact ⟨_, results_sc rfl rfl (HEND.out.2.2 _).1 (HEND.out.2.2 _).2, HEND.out.2.1 _⟩
  case stop =>
    rintro D pre W hD hpre ⟨q, x, rfl, hxw, rs, v, hsc⟩ hK
    obtain ⟨_, hls⟩ := items_stop b ls off rest q x hpre hxw
    rw [hls] at hsc
    obtain ⟨d2, d3, d4, d5, d6⟩ := hsc
    obtain ⟨la, lc, rfl, hlc⟩ := d4.form
    obtain ⟨ll, hll⟩ : ∃ ll, rs.length = ll := ⟨_, rfl⟩
    have hlls : ls.length = ll := by rw [← d5, List.length_map]; exact hll
    rw [hll] at d2 d4 hlc
    obtain ⟨N, hN⟩ : ∃ N, sizeN ls = N := ⟨_, rfl⟩
    rw [hN] at d3
    have k0 := cell_of_row W.drew w.heap.size 0 _ _ _ d2
    have k1 := cell_of_row W.drew (w.heap.size + 1) 0 _ _ _ d3
    have g0 := heap_setCell_same W.drew w.heap.size 0 _ _ (.slice la ll lc) d2
    have g1 : (W.drew.setCell ⟨w.heap.size, 0, none⟩ (.slice la ll lc)).heap[w.heap.size + 1]? = _ := (heap_setCell_other W.drew ⟨w.heap.size, 0, none⟩ (w.heap.size + 1) _ (by simp)).trans d3
    have k2 := cell_of_row _ w.heap.size 0 _ _ _ g0
    have k3 := cell_of_row _ (w.heap.size + 1) 0 _ _ _ g1
    have q1 : (fun Z : World => Z.cell? ⟨w.heap.size, 0, none⟩ = some (.slice la ll lc) ∧ Z.cell? ⟨w.heap.size + 1, 0, none⟩ = some (.int .i64 (N : Nat))) W.drew := ⟨k0, k1⟩
    have q2 : (fun Z : World => Z.cell? ⟨w.heap.size, 0, none⟩ = some (.slice la ll lc) ∧ Z.cell? ⟨w.heap.size + 1, 0, none⟩ = some (.int .i64 (N : Nat))) (W.drew.setCell ⟨w.heap.size, 0, none⟩ (.slice la ll lc)) := ⟨k2, k3⟩
    have f0 := frozen_of_row W.drew w.heap.size 0 _ _ d2
    have kw0 : W.cell? ⟨w.heap.size, 0, none⟩ = some (.slice la ll lc) := cell_of_row W w.heap.size 0 _ _ _ d2
    have kw1 : W.cell? ⟨w.heap.size + 1, 0, none⟩ = some (.int .i64 (N : Nat)) := cell_of_row W (w.heap.size + 1) 0 _ _ _ d3
    have fw0 := frozen_of_row W w.heap.size 0 _ _ d2
    have fw1 := frozen_of_row W (w.heap.size + 1) 0 _ _ d3
    have f1 := frozen_of_row _ (w.heap.size + 1) 0 _ _ g1
    have e0 := heap_setCell_same _ (w.heap.size + 1) 0 _ _ (.int .i64 (N : Nat)) g1
    have e1 := (heap_setCell_other (W.drew.setCell ⟨w.heap.size, 0, none⟩ (.slice la ll lc)) ⟨w.heap.size + 1, 0, none⟩ w.heap.size (.int .i64 (N : Nat)) (by simp)).trans g0
    have hks : ∀ k, k ≠ w.heap.size → k ≠ w.heap.size + 1 → ((W.drew.setCell ⟨w.heap.size, 0, none⟩ (.slice la ll lc)).setCell ⟨w.heap.size + 1, 0, none⟩ (.int .i64 (N : Nat))).heap[k]? = W.heap[k]? := fun k h1 h2 =>
      (heap_setCell_other _ ⟨w.heap.size + 1, 0, none⟩ k _ h2).trans (heap_setCell_other W.drew ⟨w.heap.size, 0, none⟩ k _ h1)
    have hB9 : Below w.heap.size w ((W.drew.setCell ⟨w.heap.size, 0, none⟩ (.slice la ll lc)).setCell ⟨w.heap.size + 1, 0, none⟩ (.int .i64 (N : Nat))) := ((below_drewN d6 1).setCell (p := ⟨w.heap.size, 0, none⟩) (Nat.le_refl _) _).setCell (p := ⟨w.heap.size + 1, 0, none⟩) (Nat.le_succ _) _
    have hS9 : SlsAt (X.heap.size + 2) ((W.drew.setCell ⟨w.heap.size, 0, none⟩ (.slice la ll lc)).setCell ⟨w.heap.size + 1, 0, none⟩ (.int .i64 (N : Nat))) (.slice la ll lc) rs := d4.keep (fun k h1 h2 => hks k (by omega) (by omega))
    have hK9 := (hks D (by omega) (by omega)).trans hK
    obtain ⟨V, hV⟩ : ∃ V, V = (W.drew.setCell ⟨w.heap.size, 0, none⟩ (.slice la ll lc)).setCell ⟨w.heap.size + 1, 0, none⟩ (.int .i64 (N : Nat)) := ⟨_, rfl⟩
    rw [← hV] at e0 e1 hB9 hS9 hK9
    have hVs : ∀ o, ScanE ls w (.returned (.tuple #[.slice la ll lc, .int .i64 (N : Nat)])) (V.putObj D o) := fun o => by
      refine ⟨la, lc, by rw [hlls, hN], by omega, ?_, ?_⟩
      · have hp : SlsAt (X.heap.size + 2) (V.putObj D o) (.slice la ll lc) rs := hS9.keep (fun k h1 h2 => World.putObj_heap_other (by omega))
        rw [hlls]
        exact ⟨rs, hp.le (by omega), d5⟩
      · exact ⟨hB9.os, hB9.tape, hB9.output, by simpa using hB9.size, fun k hk => (World.putObj_heap_other (by omega)).trans (hB9.block k hk)⟩
    have HEND := Lib.hid (And.intro hK9 (And.intro hVs (show ∀ o, (V.putObj D o).heap[w.heap.size]? = some (.cells #[.slice la ll lc] 22 (0, 0)) ∧ (V.putObj D o).heap[w.heap.size + 1]? = some (.cells #[.int .i64 (N : Nat)] 3 (0, 0)) from fun o => ⟨(World.putObj_heap_other (by omega)).trans e1, (World.putObj_heap_other (by omega)).trans e0⟩)))
    have HV := Lib.hid hV
    clear d2 d3 d4 d5 d6 hlc hll hlls hN k0 k1 k2 k3 g0 g1 e0 e1 hks hB9 hS9 hK9 hVs hV hK hD sX hBX y0 y1 y2 hb hv hs hl h hbn hls
    gi_wp2_with fail
    refine regionLIn0 (fun Z : World => Z.cell? ⟨w.heap.size, 0, none⟩ = some (.slice la ll lc) ∧ Z.cell? ⟨w.heap.size + 1, 0, none⟩ = some (.int .i64 (N : Nat))) 3 (by kernel_rfl) (by kernel_rfl) ?_
    refine takeL (i := 0) (oi := { dst := some 21, op := Go.Op.load 22 (Go.Operand.tmp 2), type := 22, pos := "frame.go:99", after := #[], guard := none }) (v := .slice la ll lc) [3, 2] rfl (by kernel_rfl) (by kernel_rfl) (by kernel_rfl) (by kernel_rfl) (fun _ _ _ h => only_panic h) rfl ?_ q1 ?_
    · intro Z hZ; have k := hZ.1; go_simp
    simp only [Act.put, List.setIfInBounds_toArray, List.set_cons_zero, List.set_cons_succ]
    refine takeL (i := 1) (oi := { dst := some 22, op := Go.Op.load 3 (Go.Operand.tmp 3), type := 3, pos := "frame.go:99", after := #[], guard := none }) (v := .int .i64 (N : Nat)) [3] rfl (by kernel_rfl) (by kernel_rfl) (by kernel_rfl) (by kernel_rfl) (fun _ _ _ h => only_panic h) rfl ?_ q1 ?_
    · intro Z hZ; have k := hZ.2; go_simp
    simp only [Act.put, List.setIfInBounds_toArray, List.set_cons_zero, List.set_cons_succ]
    obtain ⟨k0, k1⟩ := q1
    refine oneL (i := 2) (o := { dst := none, op := Go.Op.store 22 (Go.Operand.tmp 2) (Go.Operand.tmp 21), type := 0, pos := "frame.go:99", after := #[{ on := 0, ground := Go.Ground.data }, { on := 0, ground := Go.Ground.phase }, { on := 1, ground := Go.Ground.textOnly Go.Departure.inlinedCapture }], guard := none }) rfl (by kernel_rfl) rfl ?_
    refine wp_by_skip (w' := W.drew.setCell ⟨w.heap.size, 0, none⟩ (.slice la ll lc)) (by go_simp) ⟨fun _ => q2, ?_⟩
    simp only [Act.put, List.setIfInBounds_toArray, List.set_cons_zero, List.set_cons_succ]
    obtain ⟨k2, k3⟩ := q2
    refine oneL (i := 3) (o := { dst := none, op := Go.Op.store 3 (Go.Operand.tmp 3) (Go.Operand.tmp 22), type := 0, pos := "frame.go:99", after := #[{ on := 1, ground := Go.Ground.data }, { on := 2, ground := Go.Ground.chain }, { on := 0, ground := Go.Ground.phase }, { on := 1, ground := Go.Ground.phase }, { on := 2, ground := Go.Ground.phase }], guard := none }) rfl (by kernel_rfl) rfl ?_
    refine wp_by_skip (w' := (W.drew.setCell ⟨w.heap.size, 0, none⟩ (.slice la ll lc)).setCell ⟨w.heap.size + 1, 0, none⟩ (.int .i64 (N : Nat))) (by go_simp) ⟨fun h => absurd rfl h, ?_⟩
    simp only [Act.put, List.setIfInBounds_toArray, List.set_cons_zero, List.set_cons_succ]
    refine doneL (by kernel_rfl) (⟨rfl, ?_⟩) _
    rw [← HV.out]
    gi_wp2
    rw [Exit.noGoto_ret]
    refine ⟨by simp, .inl ⟨_, _, rfl, run_takeDeferred HEND.out.1, ?_⟩⟩
    exact ⟨_, results_sc rfl rfl (HEND.out.2.2 _).1 (HEND.out.2.2 _).2, HEND.out.2.1 _⟩
end Go.Proofs.Ytpcbolmidnoaiaa
