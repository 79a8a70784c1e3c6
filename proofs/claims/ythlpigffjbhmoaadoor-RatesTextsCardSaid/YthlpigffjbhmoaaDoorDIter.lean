/- The iterator of strings.SplitSeq at a blank. -/
import Derived.Test.YthlpigffjbhmoaaDoorELine
import Derived.Test.YthlpigffjbhmoaaDoorDLoop
import Derived.LoopNIn
import Derived.LoopIn
import Derived.TacticsInMore
set_option linter.unusedVariables false
set_option linter.unusedSimpArgs false
namespace Go.Proofs.YthlpigffjbhmoaaDoor
open Go.RowKit Go.Shelf
attribute [local go_sem] Oper.semAt_some
def encP (x : List UInt8) : Array Value := #[strL x]
/-- How long the string in a box is. -/
def boxLen (B : Nat) (W : World) : Nat := match W.heap[B]? with
  | some (Obj.cells cs _ _) => match cs[0]? with
    | some (Value.string b) => b.size
    | _ => 0
  | _ => 0
theorem boxLen_eq {B : Nat} {W : World} {l : List UInt8} {T : TypeId} {fr : Nat × Nat} (h : W.heap[B]? = some (.cells #[strL l] T fr)) : boxLen B W = l.length := by
  unfold boxLen
  rw [h]
  show l.toArray.size = _
  simp
theorem wrap64_id {x : Int} (h : -9223372036854775808 ≤ x) (h' : x ≤ 9223372036854775807) : wrap64 x = x := by unfold wrap64; omega
theorem cut_bytes {rest a b : List UInt8} {k : Nat} (h : rest = a ++ 32 :: b) (hk : a.length = k) : (⟨rest.toArray⟩ : ByteArray).extract 0 k = ⟨a.toArray⟩ ∧ (⟨rest.toArray⟩ : ByteArray).extract (k + 1) rest.length = ⟨b.toArray⟩ := by
  subst hk
  subst h
  constructor
  · apply ByteArray.ext
    apply Array.toList_inj.1
    simp [ByteArray.data_extract]
  · apply ByteArray.ext
    apply Array.toList_inj.1
    simp [ByteArray.data_extract]
    rw [List.take_of_length_le (by omega)]
theorem index_blank (rest : List UInt8) (w : World) : Calls Tryd.prog 72 #[strL rest, .string ⟨#[32]⟩] w fun e w' => e = .returned (.int .i64 (Lib.indexByte rest 32)) ∧ w = w' :=
  (strings_Index_one ⟨rest.toArray⟩ 32 w).mono fun e w' h => ⟨h.1, h.2.symm⟩
set_option maxRecDepth 100000 in
set_option maxHeartbeats 4000000 in
theorem split1_in (n : Nat) (hn : 1 ≤ n) (l Bs Bp Bk : Nat) (hd : Bp ≠ Bs ∧ Bk ≠ Bs) (s : List UInt8) (hlen : s.length ≤ 1000000) (S : Nat → Prop) (hS : ∀ j, S j → j ≠ Bs ∧ j ≠ Bp ∧ j ≠ Bk) (W : World)
    (hbs : W.heap[Bs]? = some (.cells #[strL s] 9 (0, 0))) (hbp : W.heap[Bp]? = some (.cells #[.string ⟨#[32]⟩] 9 (0, 0))) (hbk : W.heap[Bk]? = some (.cells #[.int .i64 0] 3 (0, 0)))
    (J Jx : List (List UInt8) → World → Prop) (hJ : ∀ pre, SteadyG (fun r => r = Bs) (J pre))
    (hY : ∀ pre x W1, pre ++ [x] <+: pieces s → W.heap.size ≤ W1.heap.size → J pre W1 → YieldAt Fence.wide (n - 1) Tryd.prog l (encP x) W1 fun e W' =>
      (e = .returned (.bool true) ∧ J (pre ++ [x]) W' ∧ Only W.heap.size S W1 W') ∨ (e = .returned (.bool false) ∧ Jx (pre ++ [x]) W')) (h0 : J [] W) :
    CallsIn Fence.wide n Tryd.prog 70 #[.func (.yield l) #[] #[], .pointer (some ⟨Bp, 0, none⟩), .pointer (some ⟨Bs, 0, none⟩), .pointer (some ⟨Bk, 0, none⟩)] W fun e W' => (∃ v, e = .returned v) ∧ (J (pieces s) W' ∨ ∃ pre, pre <+: pieces s ∧ Jx pre W') := by
  have c0 : W.cell? ⟨Bp, 0, none⟩ = some (.string ⟨#[32]⟩) := cell_of_row _ Bp 0 _ _ _ hbp
  have HLT := Lib.hid (show Bs < W.heap.size ∧ Bp < W.heap.size ∧ Bk < W.heap.size from ⟨(Array.getElem?_eq_some_iff.1 hbs).1, (Array.getElem?_eq_some_iff.1 hbp).1, (Array.getElem?_eq_some_iff.1 hbk).1⟩)
  have HJ := Lib.hid hJ
  have HY := Lib.hid hY
  have HS := Lib.hid hS
  have HD := Lib.hid hd
  have HJ0 := Lib.hid h0
  have HBS := Lib.hid hbs
  have HBP := Lib.hid hbp
  have HBK := Lib.hid hbk
  have HLEN := Lib.hid hlen
  clear hJ hY hS hd h0 hbs hbp hbk hlen
  refine callsIn_of_wp Tryd.func70 rfl trivial ?_ rfl
  simp only [Tryd.ntmps70, List.size_toArray, List.length_cons, List.length_nil, Nat.reduceAdd, Nat.reduceSub, Array.replicate_succ, Array.replicate_zero, List.push_toArray, List.append_toArray, List.nil_append, List.cons_append]
  gi_wp2
  gi_loopw [7] (fun _ wr => ∃ (pre : List (List UInt8)) (rest : List UInt8), pieces s = pre ++ pieces rest ∧ rest.length ≤ 1000000 ∧ J pre wr ∧ W.heap.size ≤ wr.heap.size ∧ wr.heap[Bs]? = some (.cells #[strL rest] 9 (0, 0)) ∧ wr.heap[Bp]? = some (.cells #[.string ⟨#[32]⟩] 9 (0, 0)) ∧ wr.heap[Bk]? = some (.cells #[.int .i64 0] 3 (0, 0))) (fun _ wr => boxLen Bs wr)
  case atStart => exact ⟨[], s, rfl, HLEN.out, HJ0.out, Nat.le_refl _, HBS.out, HBP.out, HBK.out⟩
  case round =>
    obtain ⟨pre, rest, hpc, hrl, hJp, hsz, zs, zp, zk⟩ := hrel
    clear c0
    have c0 : wr.cell? ⟨Bp, 0, none⟩ = some (.string ⟨#[32]⟩) := cell_of_row _ Bp 0 _ _ _ zp
    have c1 : wr.cell? ⟨Bs, 0, none⟩ = some (strL rest) := cell_of_row _ Bs 0 _ _ _ zs
    have c2 : wr.cell? ⟨Bk, 0, none⟩ = some (.int .i64 0) := cell_of_row _ Bk 0 _ _ _ zk
    have HIX := Lib.hid (index_blank rest wr)
    have HZS := Lib.hid zs
    have HZP := Lib.hid zp
    have HZK := Lib.hid zk
    have HJP := Lib.hid hJp
    clear zs zp zk hJp
    rcases byte_split 32 rest with ⟨hi, hno⟩ | ⟨a, b, hl, hno, hi⟩
    · have hi' : Lib.indexByte (⟨rest.toArray⟩ : ByteArray).data.toList 32 = -1 := hi
      rw [hi'] at HIX
      have hpre : pre ++ [rest] <+: pieces s := by rw [hpc, pieces_one hno]; exact List.prefix_refl _
      have hall : pieces s = pre ++ [rest] := by rw [hpc, pieces_one hno]
      obtain ⟨fn, tmps, assign, body, hyy, hR⟩ := HY.out pre rest wr hpre hsz HJP.out
      unfold encP at hyy
      have HR := Lib.hid hR
      have HALL := Lib.hid hall
      clear hi hno hpre hall hR hpc
      gi_wp2_with fail
      refine ⟨trivial, ?_⟩
      refine (callsIn_wide.2 HIX.out).mono ?_
      rintro e w' ⟨rfl, rfl⟩
      gi_wp2_with fail
      refine HR.out.mono ?_
      rintro e W6 (⟨rfl, hJ6, hO6⟩ | ⟨rfl, hJx6⟩)
      · rw [← HALL.out] at hJ6
        have HJ6 := Lib.hid hJ6
        clear hJ6 hO6 c0 c1 c2 hyy
        gi_wp2
        go_end0
        exact ⟨⟨_, rfl⟩, .inl HJ6.out⟩
      · rw [← HALL.out] at hJx6
        have HJ6 := Lib.hid hJx6
        clear hJx6 c0 c1 c2 hyy
        gi_wp2
        go_end0
        exact ⟨⟨_, rfl⟩, .inr ⟨_, List.prefix_refl _, HJ6.out⟩⟩
    · have hi' : Lib.indexByte (⟨rest.toArray⟩ : ByteArray).data.toList 32 = a.length := hi
      rw [hi'] at HIX
      have hpre : pre ++ [a] <+: pieces s := by rw [hpc, hl, pieces_app hno]; exact ⟨pieces b, by simp⟩
      have hnext : pieces s = (pre ++ [a]) ++ pieces b := by rw [hpc, hl, pieces_app hno]; simp
      obtain ⟨fn, tmps, assign, body, hyy, hR⟩ := HY.out pre a wr hpre hsz HJP.out
      unfold encP at hyy
      have HR := Lib.hid hR
      have HPRE := Lib.hid hpre
      have HNEXT := Lib.hid hnext
      have HL := Lib.hid hl
      obtain ⟨k, hk⟩ : ∃ k, a.length = k := ⟨_, rfl⟩
      have hkl : k + 1 + b.length = rest.length := by rw [hl, ← hk]; simp; omega
      have hcut := cut_bytes hl hk
      have HB := Lib.hid (show b.length ≤ 1000000 ∧ b.length < rest.length by omega)
      have hw1 : wrap64 (k : Int) = k := wrap64_id (by omega) (by omega)
      have hw2 : wrap64 ((k : Int) + 1) = k + 1 := wrap64_id (by omega) (by omega)
      have hk1 : (k : Int) ≤ rest.length := by omega
      have hk2 : (k : Int) + 1 ≤ rest.length := by omega
      obtain ⟨hc1, hc2⟩ := hcut
      rw [hk] at HIX
      clear hi hno hpre hnext hR hpc hl hk hkl
      gi_wp2_with fail
      refine ⟨trivial, ?_⟩
      refine (callsIn_wide.2 HIX.out).mono ?_
      rintro e w' ⟨rfl, rfl⟩
      gi_wp2_with fail
      refine HR.out.mono ?_
      rintro e W6 (⟨rfl, hJ6, hO6⟩ | ⟨rfl, hJx6⟩)
      · have hs6 := hO6.size
        have zs6 := (hO6.block Bs HLT.out.1 (fun q => (HS.out Bs q).1 rfl)).trans HZS.out
        have zp6 := (hO6.block Bp HLT.out.2.1 (fun q => (HS.out Bp q).2.1 rfl)).trans HZP.out
        have zk6 := (hO6.block Bk HLT.out.2.2 (fun q => (HS.out Bk q).2.2 rfl)).trans HZK.out
        have d0 : W6.cell? ⟨Bp, 0, none⟩ = some (.string ⟨#[32]⟩) := cell_of_row _ Bp 0 _ _ _ zp6
        have d1 : W6.cell? ⟨Bs, 0, none⟩ = some (strL rest) := cell_of_row _ Bs 0 _ _ _ zs6
        have f1 := frozen_of_row _ Bs 0 _ _ zs6
        have hset : (W6.setCell ⟨Bs, 0, none⟩ (strL b)).heap[Bs]? = some (.cells #[strL b] 9 (0, 0)) := heap_setCell_same W6 Bs 0 _ _ _ zs6
        have HREL := Lib.hid (show J (pre ++ [a]) (W6.setCell ⟨Bs, 0, none⟩ (strL b)) ∧ W.heap.size ≤ (W6.setCell ⟨Bs, 0, none⟩ (strL b)).heap.size ∧ (W6.setCell ⟨Bs, 0, none⟩ (strL b)).heap[Bs]? = some (.cells #[strL b] 9 (0, 0)) ∧ (W6.setCell ⟨Bs, 0, none⟩ (strL b)).heap[Bp]? = some (.cells #[.string ⟨#[32]⟩] 9 (0, 0)) ∧ (W6.setCell ⟨Bs, 0, none⟩ (strL b)).heap[Bk]? = some (.cells #[.int .i64 0] 3 (0, 0)) from
          ⟨HJ.out _ W6 _ (some Bs) hJ6 ⟨rfl, rfl, rfl, by simp, fun k _ hk => heap_setCell_other W6 ⟨Bs, 0, none⟩ k _ (fun e => hk (by rw [e]))⟩ (fun r e => by cases e; rfl), by rw [World.size_setCell]; omega, hset, (heap_setCell_other W6 ⟨Bs, 0, none⟩ Bp _ HD.out.1).trans zp6, (heap_setCell_other W6 ⟨Bs, 0, none⟩ Bk _ HD.out.2).trans zk6⟩)
        have HM := Lib.hid (show boxLen Bs (W6.setCell ⟨Bs, 0, none⟩ (strL b)) < boxLen Bs wr by rw [boxLen_eq hset, boxLen_eq HZS.out]; exact HB.out.2)
        clear hJ6 hO6 zs6 zp6 zk6 hset c0 c1 c2 hyy hs6
        gi_wp2
        go_roundw
        case rel => exact ⟨pre ++ [a], b, HNEXT.out, HB.out.1, HREL.out.1, HREL.out.2.1, HREL.out.2.2.1, HREL.out.2.2.2.1, HREL.out.2.2.2.2⟩
        case measure => exact HM.out
      · clear c0 c1 c2 hyy
        gi_wp2
        refine bodyPost_ret (results_none rfl _ _ _) rfl ?_
        exact ⟨⟨_, rfl⟩, .inr ⟨_, HPRE.out, hJx6⟩⟩
/-- The boxes that SplitSeq lays. -/
abbrev boxes (w : World) (s : List UInt8) : World := ((w.alloc (.cells #[strL s] 9)).alloc (.cells #[.string ⟨#[32]⟩] 9)).alloc (.cells #[.int .i64 0] 3)
theorem splitSeq_in (n : Nat) (s : List UInt8) (w : World) :
    CallsIn Fence.wide n Tryd.prog 60 #[strL s, .string ⟨#[32]⟩, .int .i64 0] w fun e w' => e = .returned (.func (.func 70) #[] #[.pointer (some ⟨w.heap.size + 1, 0, none⟩), .pointer (some ⟨w.heap.size, 0, none⟩), .pointer (some ⟨w.heap.size + 2, 0, none⟩)]) ∧ w' = boxes w s := by
  refine callsIn_of_wp Tryd.func60 rfl trivial ?_ rfl
  simp only [Tryd.ntmps60, List.size_toArray, List.length_cons, List.length_nil, Nat.reduceAdd, Nat.reduceSub, Array.replicate_succ, Array.replicate_zero, List.push_toArray, List.append_toArray, List.nil_append, List.cons_append]
  gi_wp2
  go_ret
  exact ⟨rfl, rfl⟩
theorem SplitSeq_in (n : Nat) (hn : 1 ≤ n) (s : List UInt8) (w : World) :
    CallsIn Fence.wide n Tryd.prog 47 #[strL s, .string ⟨#[32]⟩] w fun e w' => e = .returned (.func (.func 70) #[] #[.pointer (some ⟨w.heap.size + 1, 0, none⟩), .pointer (some ⟨w.heap.size, 0, none⟩), .pointer (some ⟨w.heap.size + 2, 0, none⟩)]) ∧ w' = boxes w s := by
  refine callsIn_of_wp Tryd.func47 rfl trivial ?_ rfl
  simp only [Tryd.ntmps47, List.size_toArray, List.length_cons, List.length_nil, Nat.reduceAdd, Nat.reduceSub, Array.replicate_succ, Array.replicate_zero, List.push_toArray, List.append_toArray, List.nil_append, List.cons_append]
  gi_wp2_with fail
  refine ⟨trivial, ?_⟩
  refine (splitSeq_in _ s w).mono ?_
  rintro e w' ⟨rfl, rfl⟩
  gi_wp2
  go_ret
  exact ⟨rfl, rfl⟩
theorem split_seq (n : Nat) (hn : 1 ≤ n) (Bs Bp Bk : Nat) (hd : Bp ≠ Bs ∧ Bk ≠ Bs) (s : List UInt8) (hlen : s.length ≤ 1000000) (S : Nat → Prop) (hS : ∀ j, S j → j ≠ Bs ∧ j ≠ Bp ∧ j ≠ Bk) (w : World)
    (hbs : w.heap[Bs]? = some (.cells #[strL s] 9 (0, 0))) (hbp : w.heap[Bp]? = some (.cells #[.string ⟨#[32]⟩] 9 (0, 0))) (hbk : w.heap[Bk]? = some (.cells #[.int .i64 0] 3 (0, 0))) :
    SeqBox n Tryd.prog 70 #[.pointer (some ⟨Bp, 0, none⟩), .pointer (some ⟨Bs, 0, none⟩), .pointer (some ⟨Bk, 0, none⟩)] encP Bs S (pieces s) w := by
  intro l J Jx W hW hJ hY h0
  exact split1_in n hn l Bs Bp Bk hd s hlen S hS W ((hW.block Bs (Array.getElem?_eq_some_iff.1 hbs).1).trans hbs) ((hW.block Bp (Array.getElem?_eq_some_iff.1 hbp).1).trans hbp) ((hW.block Bk (Array.getElem?_eq_some_iff.1 hbk).1).trans hbk) J Jx hJ hY h0
end Go.Proofs.YthlpigffjbhmoaaDoor
