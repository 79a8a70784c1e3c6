/- The iterator of strings.Lines. -/
import Derived.Test.YthlpigffjbhmoaaDoorDIter
import Derived.BigRegionIn
set_option linter.unusedVariables false
set_option linter.unusedSimpArgs false
namespace Go.Proofs.YthlpigffjbhmoaaDoor
open Go.RowKit Go.Shelf
attribute [local go_sem] Oper.semAt_some
/-- The lines of a text, with their line feeds. -/
def linesL : List UInt8 → List (List UInt8)
  | [] => []
  | c :: r => if c = 10 then [10] :: linesL r else match linesL r with
    | p :: ps => (c :: p) :: ps
    | [] => [[c]]
theorem lines_none : ∀ {l : List UInt8}, (10 : UInt8) ∉ l → l ≠ [] → linesL l = [l]
  | [], _, h => absurd rfl h
  | c :: r, h, _ => by
    simp only [List.mem_cons, not_or] at h
    unfold linesL
    rw [if_neg (fun e => h.1 e.symm)]
    cases r with
    | nil => rfl
    | cons d r => rw [lines_none h.2 (by simp)]
theorem lines_app : ∀ {a b : List UInt8}, (10 : UInt8) ∉ a → linesL (a ++ 10 :: b) = (a ++ [10]) :: linesL b
  | [], b, _ => by simp [linesL]
  | c :: r, b, h => by
    simp only [List.mem_cons, not_or] at h
    rw [List.cons_append, linesL, if_neg (fun e => h.1 e.symm), lines_app h.2]
    rfl
theorem lines_split : ∀ (n : Nat) (l : List UInt8), l.length ≤ n → (linesL l).flatten = l := by
  intro n
  induction n with
  | zero => intro l hl; cases l with
    | nil => rfl
    | cons c r => simp at hl
  | succ n ih =>
    intro l hl
    rcases byte_split 10 l with ⟨_, h⟩ | ⟨a, b, rfl, h, _⟩
    · cases l with
      | nil => rfl
      | cons c r => rw [lines_none h (by simp)]; simp
    · rw [lines_app h, List.flatten_cons, ih b (by simp at hl; omega)]; simp
theorem lines_flat (l : List UInt8) : (linesL l).flatten = l := lines_split l.length l (Nat.le_refl _)
theorem cut_line {rest a b : List UInt8} {k : Nat} (h : rest = a ++ 10 :: b) (hk : a.length = k) : (⟨rest.toArray⟩ : ByteArray).extract 0 (k + 1) = ⟨(a ++ [10]).toArray⟩ ∧ (⟨rest.toArray⟩ : ByteArray).extract (k + 1) rest.length = ⟨b.toArray⟩ := by
  subst hk
  subst h
  constructor
  · apply ByteArray.ext
    apply Array.toList_inj.1
    simp [ByteArray.data_extract]
    rw [List.take_append]
    simp
    exact List.take_of_length_le (by omega)
  · apply ByteArray.ext
    apply Array.toList_inj.1
    simp [ByteArray.data_extract]
    rw [List.take_of_length_le (by omega)]
theorem index_feed (rest : List UInt8) (w : World) : Calls Tryd.prog 56 #[strL rest, .int .u8 10] w fun e w' => e = .returned (.int .i64 (Lib.indexByte rest 10)) ∧ w = w' :=
  (strings_IndexByte ⟨rest.toArray⟩ 10 w).mono fun e w' h => ⟨h.1, h.2.symm⟩
set_option maxRecDepth 100000 in
set_option maxHeartbeats 4000000 in
theorem lines1_in (n : Nat) (hn : 1 ≤ n) (l Bs : Nat) (s : List UInt8) (hlen : s.length ≤ 1000000) (S : Nat → Prop) (hS : ∀ j, S j → j ≠ Bs) (W : World)
    (hbs : W.heap[Bs]? = some (.cells #[strL s] 9 (0, 0)))
    (J Jx : List (List UInt8) → World → Prop) (hJ : ∀ pre, SteadyG (fun r => r = Bs) (J pre))
    (hY : ∀ pre x W1, pre ++ [x] <+: linesL s → W.heap.size ≤ W1.heap.size → J pre W1 → YieldAt Fence.wide (n - 1) Tryd.prog l (encP x) W1 fun e W' =>
      (e = .returned (.bool true) ∧ J (pre ++ [x]) W' ∧ Only W.heap.size S W1 W') ∨ (e = .returned (.bool false) ∧ Jx (pre ++ [x]) W')) (h0 : J [] W) :
    CallsIn Fence.wide n Tryd.prog 55 #[.func (.yield l) #[] #[], .pointer (some ⟨Bs, 0, none⟩)] W fun e W' => (∃ v, e = .returned v) ∧ (J (linesL s) W' ∨ ∃ pre, pre <+: linesL s ∧ Jx pre W') := by
  have HLT := Lib.hid (show Bs < W.heap.size from (Array.getElem?_eq_some_iff.1 hbs).1)
  have HJ := Lib.hid hJ
  have HY := Lib.hid hY
  have HS := Lib.hid hS
  have HJ0 := Lib.hid h0
  have HBS := Lib.hid hbs
  have HLEN := Lib.hid hlen
  clear hJ hY hS h0 hbs hlen
  refine callsIn_of_wp Tryd.func55 rfl trivial ?_ rfl
  simp only [Tryd.ntmps55, List.size_toArray, List.length_cons, List.length_nil, Nat.reduceAdd, Nat.reduceSub, Array.replicate_succ, Array.replicate_zero, List.push_toArray, List.append_toArray, List.nil_append, List.cons_append]
  gi_wp2
  gi_loopw [3] (fun _ wr => ∃ (pre : List (List UInt8)) (rest : List UInt8), linesL s = pre ++ linesL rest ∧ rest.length ≤ 1000000 ∧ J pre wr ∧ W.heap.size ≤ wr.heap.size ∧ wr.heap[Bs]? = some (.cells #[strL rest] 9 (0, 0))) (fun _ wr => boxLen Bs wr)
  case atStart => exact ⟨[], s, rfl, HLEN.out, HJ0.out, Nat.le_refl _, HBS.out⟩
  case round =>
    obtain ⟨pre, rest, hpc, hrl, hJp, hsz, zs⟩ := hrel
    have c1 : wr.cell? ⟨Bs, 0, none⟩ = some (strL rest) := cell_of_row _ Bs 0 _ _ _ zs
    have f1 := frozen_of_row wr Bs 0 _ _ zs
    have HIX := Lib.hid (index_feed rest wr)
    have HZS := Lib.hid zs
    have HJP := Lib.hid hJp
    clear zs hJp
    by_cases hr0 : rest = []
    · subst hr0
      have HALL := Lib.hid (show linesL s = pre by rw [hpc]; simp [linesL])
      clear HIX hpc
      gi_wp2
      go_end0
      exact ⟨⟨_, rfl⟩, .inl (by rw [HALL.out]; exact HJP.out)⟩
    have hpos : 0 < rest.length := List.length_pos_iff.2 hr0
    have hg : (0 : Int) < rest.length := by omega
    rcases byte_split 10 rest with ⟨hi, hno⟩ | ⟨a, b, hl, hno, hi⟩
    · have hi' : Lib.indexByte (⟨rest.toArray⟩ : ByteArray).data.toList 10 = -1 := hi
      rw [hi] at HIX
      have hpre : pre ++ [rest] <+: linesL s := by rw [hpc, lines_none hno hr0]; exact List.prefix_refl _
      have hall : linesL s = pre ++ [rest] := by rw [hpc, lines_none hno hr0]
      have hJ1 := HJ.out pre wr (wr.setCell ⟨Bs, 0, none⟩ (strL [])) (some Bs) HJP.out ⟨rfl, rfl, rfl, by simp, fun k _ hk => heap_setCell_other wr ⟨Bs, 0, none⟩ k _ (fun e => hk (by rw [e]))⟩ (fun r e => by cases e; rfl)
      obtain ⟨fn, tmps, assign, body, hyy, hR⟩ := HY.out pre rest (wr.setCell ⟨Bs, 0, none⟩ (strL [])) hpre (by rw [World.size_setCell]; exact hsz) hJ1
      have hset : (wr.setCell ⟨Bs, 0, none⟩ (strL [])).heap[Bs]? = some (.cells #[strL []] 9 (0, 0)) := heap_setCell_same wr Bs 0 _ _ _ HZS.out
      unfold encP at hyy
      have HR := Lib.hid hR
      have HALL := Lib.hid hall
      have HSET := Lib.hid hset
      have HPOS := Lib.hid hpos
      clear hi hi' hno hpre hall hR hpc hr0 hpos hJ1 hset
      gi_wp2_with fail
      refine ⟨trivial, ?_⟩
      refine (callsIn_wide.2 HIX.out).mono ?_
      rintro e w' ⟨rfl, rfl⟩
      gi_wp2_with fail
      refine HR.out.mono ?_
      rintro e W6 (⟨rfl, hJ6, hO6⟩ | ⟨rfl, hJx6⟩)
      · have zs6 := (hO6.block Bs HLT.out (fun q => HS.out Bs q rfl)).trans HSET.out
        have hs6 := hO6.size
        have HREL := Lib.hid (show linesL s = (pre ++ [rest]) ++ linesL [] ∧ J (pre ++ [rest]) W6 ∧ W.heap.size ≤ W6.heap.size ∧ W6.heap[Bs]? = some (.cells #[strL []] 9 (0, 0)) from ⟨by rw [HALL.out]; simp [linesL], hJ6, by rw [World.size_setCell] at hs6; omega, zs6⟩)
        have HM := Lib.hid (show boxLen Bs W6 < boxLen Bs wr by rw [boxLen_eq zs6, boxLen_eq HZS.out]; exact HPOS.out)
        clear hJ6 hO6 c1 f1 hyy zs6 hs6
        gi_wp2
        go_roundw
        case rel => exact ⟨pre ++ [rest], [], HREL.out.1, by simp, HREL.out.2.1, HREL.out.2.2.1, HREL.out.2.2.2⟩
        case measure => exact HM.out
      · have HJ6 := Lib.hid hJx6
        clear hJx6 c1 f1 hyy
        gi_wp2
        refine bodyPost_ret (results_none rfl _ _ _) rfl ?_
        exact ⟨⟨_, rfl⟩, .inr ⟨_, by rw [HALL.out]; exact List.prefix_refl _, HJ6.out⟩⟩
    · rw [hi] at HIX
      obtain ⟨k, hk⟩ : ∃ k, a.length = k := ⟨_, rfl⟩
      have hkl : k + 1 + b.length = rest.length := by rw [hl, ← hk]; simp; omega
      obtain ⟨hc1, hc2⟩ := cut_line hl hk
      have hw1 : wrap64 (k : Int) = k := wrap64_id (by omega) (by omega)
      have hw2 : wrap64 ((k : Int) + 1) = k + 1 := wrap64_id (by omega) (by omega)
      have hk0 : (0 : Int) ≤ k := by omega
      have hk1 : (k : Int) ≤ rest.length := by omega
      have hk2 : (k : Int) + 1 ≤ rest.length := by omega
      rw [hk] at HIX
      have HL := Lib.hid hl
      have HNO := Lib.hid hno
      have hpre : pre ++ [a ++ [10]] <+: linesL s := by rw [hpc, hl, lines_app hno]; exact ⟨linesL b, by simp⟩
      have hall : linesL s = (pre ++ [a ++ [10]]) ++ linesL b := by rw [hpc, hl, lines_app hno]; simp
      obtain ⟨Y, hY⟩ : ∃ Y, (wr.setCell ⟨Bs, 0, none⟩ (.string ⟨b.toArray⟩)).drew = Y := ⟨_, rfl⟩
      have hgr : wr.grownBy Y (some Bs) := by rw [← hY]; exact ⟨rfl, rfl, rfl, by simp, fun k _ hk => heap_setCell_other wr ⟨Bs, 0, none⟩ k _ (fun e => hk (by rw [e]))⟩
      have hset : Y.heap[Bs]? = some (.cells #[strL b] 9 (0, 0)) := by rw [← hY]; exact heap_setCell_same wr Bs 0 _ _ _ HZS.out
      have hJ1 := HJ.out pre wr Y (some Bs) HJP.out hgr (fun r e => by cases e; rfl)
      obtain ⟨fn, tmps, assign, body, hyy, hR⟩ := HY.out pre (a ++ [10]) Y hpre (by have := hgr.size; omega) hJ1
      unfold encP at hyy
      have HR := Lib.hid hR
      have HALL := Lib.hid hall
      have HPRE := Lib.hid hpre
      have HSET := Lib.hid hset
      have HGR := Lib.hid hgr.size
      have HBL := Lib.hid (show b.length ≤ 1000000 ∧ b.length < rest.length by omega)
      clear hl hno hpc hi hk hr0 hpos hall hpre hgr hset hJ1 hR
      gi_wp2_with fail
      refine ⟨trivial, ?_⟩
      refine (callsIn_wide.2 HIX.out).mono ?_
      rintro e w' ⟨rfl, rfl⟩
      gi_wp2
      gi_region
      clear hY c1 f1
      gi_wp2_with fail
      refine HR.out.mono ?_
      rintro e W6 (⟨rfl, hJ6, hO6⟩ | ⟨rfl, hJx6⟩)
      · have zs6 := (hO6.block Bs HLT.out (fun q => HS.out Bs q rfl)).trans HSET.out
        have hs6 := hO6.size
        have HREL := Lib.hid (show J (pre ++ [a ++ [10]]) W6 ∧ W.heap.size ≤ W6.heap.size ∧ W6.heap[Bs]? = some (.cells #[strL b] 9 (0, 0)) from ⟨hJ6, by have := HGR.out; omega, zs6⟩)
        have HM := Lib.hid (show boxLen Bs W6 < boxLen Bs wr by rw [boxLen_eq zs6, boxLen_eq HZS.out]; exact HBL.out.2)
        clear hJ6 hO6 hyy zs6 hs6
        gi_wp2
        go_roundw
        case rel => exact ⟨pre ++ [a ++ [10]], b, HALL.out, HBL.out.1, HREL.out.1, HREL.out.2.1, HREL.out.2.2⟩
        case measure => exact HM.out
      · have HJ6 := Lib.hid hJx6
        clear hJx6 hyy
        gi_wp2
        refine bodyPost_ret (results_none rfl _ _ _) rfl ?_
        exact ⟨⟨_, rfl⟩, .inr ⟨_, HPRE.out, HJ6.out⟩⟩
theorem Lines_in (n : Nat) (s : List UInt8) (w : World) :
    CallsIn Fence.wide n Tryd.prog 43 #[strL s] w fun e w' => e = .returned (.func (.func 55) #[] #[.pointer (some ⟨w.heap.size, 0, none⟩)]) ∧ w' = w.alloc (.cells #[strL s] 9) := by
  refine callsIn_of_wp Tryd.func43 rfl trivial ?_ rfl
  simp only [Tryd.ntmps43, List.size_toArray, List.length_cons, List.length_nil, Nat.reduceAdd, Nat.reduceSub, Array.replicate_succ, Array.replicate_zero, List.push_toArray, List.append_toArray, List.nil_append, List.cons_append]
  gi_wp2
  go_ret
  exact ⟨rfl, rfl⟩
theorem lines_seq (n : Nat) (hn : 1 ≤ n) (Bs : Nat) (s : List UInt8) (hlen : s.length ≤ 1000000) (S : Nat → Prop) (hS : ∀ j, S j → j ≠ Bs) (w : World)
    (hbs : w.heap[Bs]? = some (.cells #[strL s] 9 (0, 0))) :
    SeqBox n Tryd.prog 55 #[.pointer (some ⟨Bs, 0, none⟩)] encP Bs S (linesL s) w := by
  intro l J Jx W hW hJ hY h0
  exact lines1_in n hn l Bs s hlen S hS W ((hW.block Bs (Array.getElem?_eq_some_iff.1 hbs).1).trans hbs) J Jx hJ hY h0
theorem linesOf_in (n : Nat) (s : List UInt8) (w : World) :
    CallsIn Fence.wide n Tryd.prog 28 #[strL s] w fun e w' => e = .returned (.func (.func 42) #[] #[.pointer (some ⟨w.heap.size, 0, none⟩)]) ∧ w' = w.alloc (.cells #[strL s] 9) := by
  refine callsIn_of_wp Tryd.func28 rfl trivial ?_ rfl
  simp only [Tryd.ntmps28, List.size_toArray, List.length_cons, List.length_nil, Nat.reduceAdd, Nat.reduceSub, Array.replicate_succ, Array.replicate_zero, List.push_toArray, List.append_toArray, List.nil_append, List.cons_append]
  gi_wp2
  go_ret
  exact ⟨rfl, rfl⟩
end Go.Proofs.YthlpigffjbhmoaaDoor
