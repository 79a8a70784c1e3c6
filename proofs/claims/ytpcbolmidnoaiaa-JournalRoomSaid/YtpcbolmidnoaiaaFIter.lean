/- The iterator framesOf. -/
import Derived.Test.YtpcbolmidnoaiaaFFirst
import Derived.Test.YtpcbolmidnoaiaaFLift
import Derived.Test.YtpcbolmidnoaiaaFBrk
import Derived.Test.YtpcbolmidnoaiaaRRegL
import Derived.RangeFuncNested
import Derived.RangeFuncBound
import Derived.Laws.EntriesVeiled
import Derived.TacticsInMore
import Derived.LoopNIn
import Derived.LoopIn
set_option linter.unusedVariables false
set_option linter.unusedSimpArgs false
namespace Go.Proofs.Ytpcbolmidnoaiaa
open Go.RowKit Go.Shelf
attribute [local go_sem] Oper.semAt_some
/-- What the iterator gives: a record, or why there is none. -/
structure It where
  v : Value
  L : List Int
  why : Nat
def encI (x : It) : Array Value := #[x.v, .int .i64 (x.why : Nat)]
def itemsOf (b : Nat) : Nat → List (List Int) → List Int → List It
  | off, [], rest => if rest = [] then [] else [⟨.slice none 0 0, [], whyOf rest⟩]
  | off, L :: l, rest => ⟨.slice (some ⟨b, off + 6, none⟩) L.length L.length, L, 0⟩ :: itemsOf b (off + (6 + L.length)) l rest
theorem Bys8.other {B : Nat} {W X : World} {b o n c : Nat} {xs : List Int} (h : Bys8 B W (.slice (some ⟨b, o, none⟩) n c) xs) (hk : X.heap[b]? = W.heap[b]?) : Bys8 B X (.slice (some ⟨b, o, none⟩) n c) xs := by
  refine ⟨h.1, ?_⟩
  rcases h.2 with e | ⟨b', o', c', e, hb, hc⟩
  · exact .inl e
  · cases e
    exact .inr ⟨b, o, c, rfl, hb, fun j hj => (World.cell?_of_block (a := ⟨b, o + j, none⟩) hk).trans (hc j hj)⟩
/-- What the box holds: the bytes that are left. -/
def BoxV (b off : Nat) (v : Value) (xs : List Int) : Prop := (xs = [] ∧ ∃ a c, v = .slice a 0 c) ∨ (xs ≠ [] ∧ ∃ c, v = .slice (some ⟨b, off, none⟩) xs.length c ∧ xs.length ≤ c)
def boxL (Bs : Nat) (w : World) : Nat := match w.heap[Bs]? with
  | some (Obj.cells cs _ _) => match cs[0]? with
    | some (Value.slice _ n _) => n
    | _ => 0
  | _ => 0
theorem boxL_eq {Bs n c : Nat} {w : World} {a : Option Addr} {T : TypeId} {fr : Nat × Nat} (h : w.heap[Bs]? = some (.cells #[.slice a n c] T fr)) : boxL Bs w = n := by
  unfold boxL; rw [h]; rfl
theorem grown_of {X Y : World} (h : Below X.heap.size X Y) (row : Option Nat) : X.grownBy Y row := ⟨h.os, h.tape, h.output, h.size, fun k hk _ => h.block k hk⟩
theorem framesOf_in (n : Nat) (a : Option Addr) (m c : Nat) (w : World) :
    CallsIn Fence.wide n Try.prog 64 #[.slice a m c] w fun e w' => e = .returned (.func (.func 75) #[] #[.pointer (some ⟨w.heap.size, 0, none⟩)]) ∧ w' = w.alloc (.cells #[.slice a m c] 23) := by
  refine callsIn_of_wp Try.func64 rfl trivial ?_ rfl
  simp only [Try.ntmps64, List.size_toArray, List.length_cons, List.length_nil, Nat.reduceAdd, Nat.reduceSub, Array.replicate_succ, Array.replicate_zero, List.push_toArray, List.append_toArray, List.nil_append, List.cons_append]
  gi_wp2
  go_ret
  exact ⟨rfl, rfl⟩
theorem sl_rest (b off n c k : Nat) (h : k ≤ n) (hc : n ≤ c) (xs : List Int) (hx : xs.length = n) : ∃ a2 k2 c2, (∀ W : World, (Instr.slice 23 (.slice (some ⟨b, off, none⟩) n c) (some (.int .i64 (k : Int))) none none).run Try.prog W = .ok (.slice a2 k2 c2) W) ∧ BoxV b (off + k) (.slice a2 k2 c2) (xs.drop k) := by
  have hr : ∀ W : World, (Instr.slice 23 (.slice (some ⟨b, off, none⟩) n c) (some (.int .i64 (k : Int))) none none).run Try.prog W = .ok (sliced (some ⟨b, off, none⟩) k n c 1) W := fun W => by
    rw [run_slice_l W 23 (some ⟨b, off, none⟩) n c (by rw [elem8]; exact Try.underlying23) .i64 k (by omega) (by omega), elem8, size8]
    simp [Result.andThen]
  refine ⟨_, _, _, hr, ?_⟩
  by_cases hk : k = n
  · refine .inl ⟨List.drop_of_length_le (by omega), ?_⟩
    rw [hk, Nat.sub_self]
    exact ⟨_, _, rfl⟩
  · refine .inr ⟨fun e => ?_, c - k, ?_, by rw [List.length_drop]; omega⟩
    · have := congrArg List.length e
      rw [List.length_drop] at this
      simp at this
      omega
    · rw [if_neg (by omega), List.length_drop, hx]
      simp [Addr.add]
theorem scans_nil {l : List (List Int)} {rest : List Int} (h : Scans [] l rest) : l = [] ∧ rest = [] := by
  have e := h.eq
  have e2 := List.append_eq_nil_iff.1 e.symm
  refine ⟨?_, e2.2⟩
  cases l with
  | nil => rfl
  | cons L l =>
    have := congrArg List.length e2.1
    rw [List.map_cons, List.flatten_cons, List.length_append, frameL_len] at this
    simp at this
theorem scans_tail {xs : List Int} {L : List Int} {l : List (List Int)} {rest : List Int} (h : Scans xs (L :: l) rest) : whyOf xs = 0 ∧ recOf xs = L ∧ RecL L ∧ Scans (xs.drop (6 + L.length)) l rest ∧ 6 + L.length ≤ xs.length := by
  have e := h.eq
  rw [List.map_cons, List.flatten_cons, List.append_assoc] at e
  have hL := h.recs L (by simp)
  obtain ⟨_, _, p3, _, p5⟩ := frame_parts L ((l.map frameL).flatten ++ rest)
  rw [← e] at p3 p5
  refine ⟨by rw [e]; exact why_frame hL _, p3, hL, ⟨p5, fun M hM => h.recs M (List.mem_cons_of_mem _ hM), h.tail⟩, ?_⟩
  have := congrArg List.length e
  rw [List.length_append, frameL_len] at this
  omega
set_option maxRecDepth 100000 in
set_option maxHeartbeats 4000000 in
theorem frames1_in (n : Nat) (hn : 1 ≤ n) (l Bs b off0 : Nat) (hbB : b ≠ Bs) (v0 : Value) (xs0 : List Int) (ls0 : List (List Int)) (rest : List Int) (hs0 : Scans xs0 ls0 rest) (hlen : xs0.length ≤ 1000000) (hv0 : BoxV b off0 v0 xs0) (S : Nat → Prop) (hS : ∀ j, S j → j ≠ Bs ∧ j ≠ b) (W : World)
    (hbs : W.heap[Bs]? = some (.cells #[v0] 23 (0, 0))) (hx0 : Bys8 W.heap.size W v0 xs0) (J Jx : List It → World → Prop) (hJ : ∀ pre, SteadyG (fun r => r = Bs) (J pre))
    (hY : ∀ pre x W1, pre ++ [x] <+: itemsOf b off0 ls0 rest → W.heap.size ≤ W1.heap.size → J pre W1 → YieldAt Fence.wide (n - 1) Try.prog l (encI x) W1 fun e W' =>
      (e = .returned (.bool true) ∧ J (pre ++ [x]) W' ∧ Only W.heap.size S W1 W') ∨ (e = .returned (.bool false) ∧ Jx (pre ++ [x]) W')) (h0 : J [] W) :
    CallsIn Fence.wide n Try.prog 75 #[.func (.yield l) #[] #[], .pointer (some ⟨Bs, 0, none⟩)] W fun e W' => (∃ v, e = .returned v) ∧ (J (itemsOf b off0 ls0 rest) W' ∨ ∃ pre, pre <+: itemsOf b off0 ls0 rest ∧ Jx pre W') := by
  have HLT := Lib.hid (show Bs < W.heap.size ∧ (xs0 ≠ [] → b < W.heap.size) from ⟨(Array.getElem?_eq_some_iff.1 hbs).1, fun q => by
    rcases hv0 with ⟨e, _⟩ | ⟨_, c, e, _⟩
    · exact absurd e q
    · subst e
      rcases hx0.2 with ⟨e, _⟩ | ⟨b', o', c', e, hb, _⟩
      · exact absurd e q
      · cases e; exact hb⟩)
  have HJ := Lib.hid hJ
  have HY := Lib.hid hY
  have HS := Lib.hid (And.intro hS hbB)
  have HJ0 := Lib.hid h0
  have H0 := Lib.hid (And.intro hs0 (And.intro hlen (And.intro hv0 (And.intro hbs hx0))))
  obtain ⟨items, hit⟩ : ∃ items, itemsOf b off0 ls0 rest = items := ⟨_, rfl⟩
  rw [hit] at HY ⊢
  have HIT := Lib.hid hit
  clear hJ hY hS h0 hs0 hlen hv0 hbs hx0 hbB hit
  refine callsIn_of_wp Try.func75 rfl trivial ?_ rfl
  simp only [Try.ntmps75, List.size_toArray, List.length_cons, List.length_nil, Nat.reduceAdd, Nat.reduceSub, Array.replicate_succ, Array.replicate_zero, List.push_toArray, List.append_toArray, List.nil_append, List.cons_append]
  gi_wp2
  gi_loopw [5] (fun _ wr => ∃ (pre : List It) (off : Nat) (ls : List (List Int)) (xs : List Int) (v : Value), items = pre ++ itemsOf b off ls rest ∧ Scans xs ls rest ∧ (xs ≠ [] → xs0 ≠ []) ∧ xs.length ≤ 1000000 ∧ J pre wr ∧ W.heap.size ≤ wr.heap.size ∧ wr.heap[Bs]? = some (.cells #[v] 23 (0, 0)) ∧ BoxV b off v xs ∧ Bys8 wr.heap.size wr v xs) (fun _ wr => boxL Bs wr)
  case atStart => exact ⟨[], off0, ls0, xs0, v0, HIT.out.symm, H0.out.1, id, H0.out.2.1, HJ0.out, Nat.le_refl _, H0.out.2.2.2.1, H0.out.2.2.1, H0.out.2.2.2.2⟩
  case round =>
    obtain ⟨pre, off, ls, xs, v, hpc, hsc, hne, hxl, hJp, hsz, zs, hv, hx⟩ := hrel
    have c1 : wr.cell? ⟨Bs, 0, none⟩ = some v := cell_of_row _ Bs 0 _ _ _ zs
    rcases hv with ⟨rfl, a, c, rfl⟩ | ⟨hxn, c, rfl, hlc⟩
    · obtain ⟨rfl, rfl⟩ := scans_nil hsc
      have hall : items = pre := by rw [hpc]; simp [itemsOf]
      rw [← hall] at hJp
      have HJP := Lib.hid hJp
      clear hpc hsc hne hxl hJp hsz zs hx hall
      gi_wp2
      go_end0
      exact ⟨⟨_, rfl⟩, .inl HJP.out⟩
    · obtain ⟨m, hm⟩ : ∃ m, xs.length = m := ⟨_, rfl⟩
      have hm0 : 0 < m := by
        rw [← hm]
        exact List.length_pos_iff.2 hxn
      have i0 : (0 : Int) < (m : Int) := by omega
      have hbW := HLT.out.2 (hne hxn)
      rw [hm] at hlc hx c1 zs hxl
      have HZS := Lib.hid zs
      have HX := Lib.hid (And.intro hx (And.intro hlc (And.intro hxl (And.intro hm hsz))))
      have HNE := Lib.hid (hne hxn)
      cases ls with
      | nil =>
        have hrx : xs = rest := by have := hsc.eq; simpa using this
        have hwy : whyOf xs ≠ 0 := by
          rcases hsc.tail with e | e
          · exact absurd (hrx.trans e) hxn
          · rw [hrx]; exact e
        have hF := first_no _ m c xs wr hx hlc hxl hwy
        have hall : items = pre ++ [⟨.slice none 0 0, [], whyOf xs⟩] := by
          rw [hpc, hrx]
          unfold itemsOf
          rw [if_neg (fun e => hxn (hrx.trans e))]
        generalize whyOf xs = y at *
        have i1 : ((y : Int) != 0) = true := by simp; omega
        have HF := Lib.hid hF
        have HALL := Lib.hid hall
        have HJP := Lib.hid hJp
        clear hpc hsc hne hxl hJp hsz zs hx hall hF hwy hrx hxn hlc hm hm0 hbW
        gi_wp2_with fail
        refine ⟨trivial, ?_⟩
        refine (callsIn_wide.2 HF.out).mono ?_
        rintro e W2 ⟨rfl, hB2⟩
        have hJ2 := HJ.out _ wr W2 none HJP.out (grown_of hB2 none) (fun r e => by cases e)
        obtain ⟨fn, tmps, assign, body, hyy, hR⟩ := HY.out pre ⟨.slice none 0 0, [], y⟩ W2 (by rw [HALL.out]; exact List.prefix_refl _) (Nat.le_trans HX.out.2.2.2.2 hB2.size) hJ2
        unfold encI at hyy
        rw [← HALL.out] at hR
        have HR := Lib.hid hR
        clear hR hJ2 hB2 c1
        gi_wp2_with fail
        refine HR.out.mono ?_
        rintro e W6 (⟨rfl, hJ6, hO6⟩ | ⟨rfl, hJx6⟩)
        · have HJ6 := Lib.hid hJ6
          clear hJ6 hO6 hyy
          gi_wp2
          refine bodyPost_ret (results_none rfl _ _ _) rfl ?_
          exact ⟨⟨_, rfl⟩, .inl HJ6.out⟩
        · have HJ6 := Lib.hid hJx6
          clear hJx6 hyy
          gi_wp2
          refine bodyPost_ret (results_none rfl _ _ _) rfl ?_
          exact ⟨⟨_, rfl⟩, .inr ⟨_, List.prefix_refl _, HJ6.out⟩⟩
      | cons L ls =>
        obtain ⟨hw, hrec, hL, hsc', hle⟩ := scans_tail hsc
        have hF := first_yes b off m c xs wr hx hlc hxl hw
        rw [hrec] at hF
        obtain ⟨r, hr⟩ : ∃ r, L.length = r := ⟨_, rfl⟩
        have hL' : 1 ≤ r ∧ r ≤ 4096 := by rw [← hr]; exact hL
        have hnext : items = (pre ++ [⟨.slice (some ⟨b, off + 6, none⟩) L.length L.length, L, 0⟩]) ++ itemsOf b (off + (6 + L.length)) ls rest := by rw [hpc]; simp [itemsOf]
        rw [hr] at hF hnext hsc' hle
        obtain ⟨va, vk, vc, hsl, hbx⟩ := sl_rest b off m c (6 + r) (by omega) hlc xs hm
        rw [show ((6 + r : Nat) : Int) = 6 + (r : Int) by omega] at hsl
        have HSZ := Lib.hid (fun (W : World) => show Calls Try.prog 31 #[.slice (some ⟨b, off + 6, none⟩) r r] W (fun e w' => e = .returned (.int .i64 (6 + (r : Int))) ∧ W = w') from by
          have := size_any (some ⟨b, off + 6, none⟩) r r W
          rw [show ((sizeE r : Nat) : Int) = 6 + (r : Int) by unfold sizeE; rw [if_pos hL']; omega] at this
          exact this)
        have HSL := Lib.hid hsl
        have HF := Lib.hid hF
        have HN := Lib.hid (And.intro hnext (And.intro hsc' (And.intro hbx (show 6 + r ≤ m by omega))))
        have HJP := Lib.hid hJp
        clear hpc hsc hne hxl hJp hsz zs hx hF hrec hxn hlc hm hm0 hw hL hL' hnext hsc' hle hsl hbx hr
        gi_wp2_with fail
        refine ⟨trivial, ?_⟩
        refine (callsIn_wide.2 HF.out).mono ?_
        rintro e W2 ⟨rfl, hB2⟩
        have hJ2 := HJ.out _ wr W2 none HJP.out (grown_of hB2 none) (fun r e => by cases e)
        obtain ⟨fn, tmps, assign, body, hyy, hR⟩ := HY.out pre ⟨.slice (some ⟨b, off + 6, none⟩) r r, L, 0⟩ W2 (by rw [HN.out.1]; exact List.prefix_append _ _) (Nat.le_trans HX.out.2.2.2.2 hB2.size) hJ2
        unfold encI at hyy
        rw [show ((0 : Nat) : Int) = 0 from rfl] at hyy
        have HR := Lib.hid hR
        have HB2 := Lib.hid hB2
        clear hR hJ2 hB2 c1
        gi_wp2_with fail
        refine HR.out.mono ?_
        rintro e W6 (⟨rfl, hJ6, hO6⟩ | ⟨rfl, hJx6⟩)
        · obtain ⟨hx, hlc, hxl, hm, hsz⟩ := HX.out
          have hs2 := HB2.out.size
          have hs6 := hO6.size
          have zs6 : W6.heap[Bs]? = some (.cells #[.slice (some ⟨b, off, none⟩) m c] 23 (0, 0)) := (hO6.block Bs HLT.out.1 (fun q => (HS.out.1 Bs q).1 rfl)).trans ((HB2.out.block Bs (by have := HLT.out.1; omega)).trans HZS.out)
          have q1 : (fun Z : World => Z.cell? ⟨Bs, 0, none⟩ = some (.slice (some ⟨b, off, none⟩) m c)) W6.drew := cell_of_row W6.drew Bs 0 _ _ _ zs6
          have f1 : W6.drew.frozen? ⟨Bs, 0, none⟩ = false := frozen_of_row W6.drew Bs 0 _ _ zs6
          have hset : (W6.drew.setCell ⟨Bs, 0, none⟩ (.slice va vk vc)).heap[Bs]? = some (.cells #[.slice va vk vc] 23 (0, 0)) := heap_setCell_same W6.drew Bs 0 _ _ _ zs6
          have hb6 : (W6.drew.setCell ⟨Bs, 0, none⟩ (.slice va vk vc)).heap[b]? = wr.heap[b]? := by
            have hbW := HLT.out.2 HNE.out
            exact (heap_setCell_other W6.drew ⟨Bs, 0, none⟩ b _ HS.out.2).trans ((hO6.block b hbW (fun q => (HS.out.1 b q).2 rfl)).trans (HB2.out.block b (by omega)))
          have hJ7 : J (pre ++ [⟨.slice (some ⟨b, off + 6, none⟩) r r, L, 0⟩]) (W6.drew.setCell ⟨Bs, 0, none⟩ (.slice va vk vc)) := HJ.out _ W6 _ (some Bs) hJ6 ⟨rfl, rfl, rfl, by simp, fun k _ hk => heap_setCell_other W6.drew ⟨Bs, 0, none⟩ k _ (fun e => hk (by rw [e]))⟩ (fun r e => by cases e; rfl)
          have hby : Bys8 (W6.drew.setCell ⟨Bs, 0, none⟩ (.slice va vk vc)).heap.size (W6.drew.setCell ⟨Bs, 0, none⟩ (.slice va vk vc)) (.slice va vk vc) (xs.drop (6 + r)) := by
            have hsz7 : wr.heap.size ≤ (W6.drew.setCell ⟨Bs, 0, none⟩ (.slice va vk vc)).heap.size := by rw [World.size_setCell]; exact Nat.le_trans hs2 (by simpa using hs6)
            rcases HN.out.2.2.1 with ⟨e, a, c', e2⟩ | ⟨hne, c', e2, _⟩
            · rw [e, e2]; exact bys8_nil _ _ _ _
            · have hlt : 6 + r < xs.length := by
                refine Classical.byContradiction fun q => hne (List.drop_of_length_le (by omega))
              have h1 := hx.drop (6 + r) hlt c'
              rw [List.length_drop] at e2
              cases e2
              exact (h1.other hb6).mono hsz7
          have HREL := Lib.hid (And.intro hJ7 (And.intro hset hby))
          have HM := Lib.hid (show boxL Bs (W6.drew.setCell ⟨Bs, 0, none⟩ (.slice va vk vc)) < boxL Bs wr by
            rw [boxL_eq HZS.out]
            rcases HN.out.2.2.1 with ⟨e, a, c', e2⟩ | ⟨hne, c', e2, _⟩
            · cases e2; rw [boxL_eq hset]; have := HN.out.2.2.2; omega
            · rw [List.length_drop] at e2; cases e2; rw [boxL_eq hset]; have := HN.out.2.2.2; omega)
          have HSZ7 := Lib.hid (show W.heap.size ≤ (W6.drew.setCell ⟨Bs, 0, none⟩ (.slice va vk vc)).heap.size by rw [World.size_setCell]; exact Nat.le_trans hsz (Nat.le_trans hs2 (by simpa using hs6)))
          have HXL := Lib.hid (show (xs.drop (6 + r)).length ≤ 1000000 by rw [List.length_drop]; omega)
          clear hJ6 hO6 zs6 hset hb6 hJ7 hby hyy hs2 hs6 hx hlc hxl hm hsz
          gi_wp2_with fail
          refine regionLIn0 (fun Z : World => Z.cell? ⟨Bs, 0, none⟩ = some (.slice (some ⟨b, off, none⟩) m c)) 4 (by kernel_rfl) (by kernel_rfl) ?_
          refine takeL (i := 0) (oi := { dst := some 22, op := Go.Op.load 23 (Go.Operand.tmp 1), type := 23, pos := "frame.go:128", after := #[], guard := none }) (v := .slice (some ⟨b, off, none⟩) m c) [4, 3] rfl (by kernel_rfl) (by kernel_rfl) (by kernel_rfl) (by kernel_rfl) (fun _ _ _ h => only_panic h) rfl ?_ q1 ?_
          · intro Z hZ; have k : Z.cell? ⟨Bs, 0, none⟩ = some (.slice (some ⟨b, off, none⟩) m c) := hZ; go_simp
          simp only [Act.put, List.setIfInBounds_toArray, List.set_cons_zero, List.set_cons_succ]
          refine takeL (i := 1) (oi := { dst := some 23, op := Go.Op.move (Go.Operand.tmp 3), type := 23, pos := "frame.go:128", after := #[], guard := none }) (v := .slice (some ⟨b, off + 6, none⟩) r r) [4, 3, 2] rfl (by kernel_rfl) (by kernel_rfl) (by kernel_rfl) (by kernel_rfl) (fun _ _ _ h => only_panic h) rfl ?_ q1 ?_
          · intro Z hZ; go_simp
          simp only [Act.put, List.setIfInBounds_toArray, List.set_cons_zero, List.set_cons_succ]
          refine oneL (i := 2) (o := { dst := some 24, op := Go.Op.call { callee := Go.Callee.value (Go.Operand.func 31), args := #[Go.Operand.tmp 23], argTypes := #[23] }, type := 3, pos := "frame.go:128", after := #[{ on := 1, ground := Go.Ground.data }], guard := none }) rfl (by kernel_rfl) rfl ?_
          refine wp_by_call (f := 31) (args := #[.slice (some ⟨b, off + 6, none⟩) r r]) (by go_simp) ((HSZ.out _).mono ?_)
          rintro e Z ⟨rfl, rfl⟩
          refine ⟨_, rfl, (fun _ => q1), ?_⟩
          simp only [Act.put, List.setIfInBounds_toArray, List.set_cons_zero, List.set_cons_succ]
          refine oneL (i := 3) (o := { dst := some 25, op := Go.Op.slice 23 (Go.Operand.tmp 22) (some (Go.Operand.tmp 24)) none none, type := 23, pos := "frame.go:128", after := #[{ on := 0, ground := Go.Ground.data }, { on := 2, ground := Go.Ground.data }], guard := none }) rfl (by kernel_rfl) rfl ?_
          refine wp_by_run (w' := W6.drew) (v := .slice va vk vc) (by have e := HSL.out W6.drew; go_simp) ⟨fun _ => q1, ?_⟩
          simp only [Act.put, List.setIfInBounds_toArray, List.set_cons_zero, List.set_cons_succ]
          refine oneL (i := 4) (o := { dst := none, op := Go.Op.store 23 (Go.Operand.tmp 1) (Go.Operand.tmp 25), type := 0, pos := "frame.go:128", after := #[{ on := 3, ground := Go.Ground.data }, { on := 2, ground := Go.Ground.chain }, { on := 0, ground := Go.Ground.phase }, { on := 1, ground := Go.Ground.phase }, { on := 2, ground := Go.Ground.phase }, { on := 3, ground := Go.Ground.phase }], guard := none }) rfl (by kernel_rfl) rfl ?_
          refine wp_by_skip (w' := W6.drew.setCell ⟨Bs, 0, none⟩ (.slice va vk vc)) (by go_simp) ⟨fun h => absurd rfl h, ?_⟩
          simp only [Act.put, List.setIfInBounds_toArray, List.set_cons_zero, List.set_cons_succ]
          refine doneL (by kernel_rfl) (⟨rfl, ?_⟩) _
          gi_wp2
          go_roundw
          case rel => exact ⟨_, off + (6 + r), ls, xs.drop (6 + r), _, HN.out.1, HN.out.2.1, fun _ => HNE.out, HXL.out, HREL.out.1, HSZ7.out, HREL.out.2.1, HN.out.2.2.1, HREL.out.2.2⟩
          case measure => exact HM.out
        · have hp : pre ++ [⟨.slice (some ⟨b, off + 6, none⟩) r r, L, 0⟩] <+: items := by rw [HN.out.1]; exact List.prefix_append _ _
          have HJ6 := Lib.hid (And.intro hp hJx6)
          clear hJx6 hyy hp
          gi_wp2
          refine bodyPost_ret (results_none rfl _ _ _) rfl ?_
          exact ⟨⟨_, rfl⟩, .inr ⟨_, HJ6.out.1, HJ6.out.2⟩⟩
theorem frames_seq (n : Nat) (hn : 1 ≤ n) (Bs b off : Nat) (hbB : b ≠ Bs) (v : Value) (xs : List Int) (ls : List (List Int)) (rest : List Int) (hs : Scans xs ls rest) (hlen : xs.length ≤ 1000000) (hv : BoxV b off v xs) (S : Nat → Prop) (hS : ∀ j, S j → j ≠ Bs ∧ j ≠ b) (w : World)
    (hbs : w.heap[Bs]? = some (.cells #[v] 23 (0, 0))) (hx : Bys8 w.heap.size w v xs) :
    SeqBox n Try.prog 75 #[.pointer (some ⟨Bs, 0, none⟩)] encI Bs S (itemsOf b off ls rest) w := by
  intro l J Jx W hW hJ hY h0
  exact frames1_in n hn l Bs b off hbB v xs ls rest hs hlen hv S hS W ((hW.block Bs (Array.getElem?_eq_some_iff.1 hbs).1).trans hbs) (hx.grow hW) J Jx hJ hY h0
end Go.Proofs.Ytpcbolmidnoaiaa
