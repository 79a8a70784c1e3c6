/- The document's Parse. -/
import Derived.Test.YthlpigffjbhmoaaDoorRParR
import Derived.Test.YthlpigffjbhmoaaDoorRText
import Derived.Deep.RegionHeld3
import Derived.BigQuiet
set_option linter.unusedVariables false
set_option linter.unusedSimpArgs false
namespace Go.Proofs.YthlpigffjbhmoaaDoor
open Go.RowKit Go.Shelf
theorem results_rp {x y z : Value} {tmps : Array Value} {w : World} (h2 : tmps.getD 2 undef = x) (h3 : tmps.getD 3 undef = y) (h4 : tmps.getD 4 undef = z) : (results Tryd.f12 tmps).run Tryd.prog w = .ok (.tuple #[x, y, z]) w := by
  simp only [Array.getD_eq_getD_getElem?] at h2 h3 h4
  simp [results, Tryd.results12, go_sem, h2, h3, h4]
/-- Where no line may follow. -/
theorem rp_end {L : List UInt8} {at' : Nat} {l : List Ve} (hl : TabMay l) (ht : L.take at' = textL l) (hlt : at' < L.length) (hno : (10 : UInt8) ∉ L.drop at') : ParseIs L [] ((l.length : Int) + 1) 100 := by
  refine .inr ⟨rfl, rfl, l, L.drop at', hl, by rw [← ht, List.take_append_drop], by intro e; have := congrArg List.length e; simp at this; omega, rfl, ?_⟩
  have := no_line (r := l) (ln := L.drop at') (rest := []) (.inr ⟨hno, rfl⟩) (fun v hv e => hno (by rw [e]; unfold lineL; simp))
  simpa using this
theorem rp_rest {L : List UInt8} {at' t : Nat} (hat : at' ≤ t) (ht : t < L.length) (h10 : L[t]? = some 10) : L.drop at' = ((L.take t).drop at' ++ [10]) ++ L.drop (t + 1) := by
  have h1 : L.take (t + 1) = L.take t ++ [10] := take_snoc h10
  have h2 : L = L.take (t + 1) ++ L.drop (t + 1) := (List.take_append_drop _ _).symm
  conv => lhs; rw [h2]
  rw [List.drop_append_of_le_length (by rw [List.length_take]; omega), h1, List.drop_append_of_le_length (by rw [List.length_take]; omega)]
theorem rp_no {L : List UInt8} {at' t : Nat} {l : List Ve} (hl : TabMay l) (htx : L.take at' = textL l) (hat : at' ≤ t) (ht : t < L.length) (h10 : L[t]? = some 10) (hno : (10 : UInt8) ∉ (L.take t).drop at') (href : ∀ u, Follows l u → (L.take t).drop at' ++ [10] ≠ lineL u) : ParseIs L [] ((l.length : Int) + 1) 100 := by
  refine .inr ⟨rfl, rfl, l, L.drop at', hl, by rw [← htx, List.take_append_drop], by intro e; have := congrArg List.length e; simp at this; omega, rfl, ?_⟩
  rw [rp_rest hat ht h10]
  exact no_line (.inl ⟨_, rfl, hno⟩) href
theorem rp_yes {L : List UInt8} {at' t : Nat} {l : List Ve} {v : Ve} (htx : L.take at' = textL l) (hat : at' ≤ t) (ht : t < L.length) (h10 : L[t]? = some 10) (hln : lineL v = (L.take t).drop at' ++ [10]) : L.take (t + 1) = textL (l ++ [v]) := by
  rw [textL_app, textL_one, hln, ← htx, take_snoc h10, ← List.append_assoc]
  congr 1
  have := List.take_append_drop at' (L.take t)
  rw [List.take_take, Nat.min_eq_left hat] at this
  exact this.symm
/-- What may follow is what read reads. -/
theorem rp_read {L : List UInt8} {at' t : Nat} {f : Int} {ps : List Int} (hr : RDone (pieces ((L.take t).drop at')) f ps) {l : List Ve} {u : Ve} (hu : Follows l u) (e : (L.take t).drop at' ++ [10] = lineL u) : (⟨f, ps⟩ : Ve) = u := by
  rw [line_body e] at hr
  exact read_body hu.2.1 hr
theorem own_is {B n c : Nat} {f : Int} {a : Option Addr} {W : World} {ps : List Int} (h : OwnP B W (.slice a n c) ps) (hn : ps.length = n) : RwIs W W.heap.size [⟨f, a, n, c⟩] [⟨f, ps⟩] := by
  refine ⟨rfl, fun i r v hr hv => ?_⟩
  cases i with
  | zero =>
    simp at hr hv
    subst hr
    subst hv
    exact ⟨rfl, hn.symm, h.caps hn, fun j p hp => let ⟨b, e, _, hb, hc⟩ := h.prs j p hp; ⟨b, 0, e, hb, by omega, hc⟩⟩
  | succ i => simp at hr
set_option maxRecDepth 100000 in
set_option maxHeartbeats 8000000 in
theorem rParse_any (s : ByteArray) (hs : s.size ≤ 3000) (w : World) : Calls Tryd.prog 12 #[.string s] w fun e w' => ParsE s.data.toList e w' ∧ Below w.heap.size w w' := by
  have hll : s.data.toList.length = s.size := by simp
  have HLL := Lib.hid hll
  have HRD := Lib.hid (fun (at' t : Nat) (ht : t ≤ s.size) W => (show Calls Tryd.prog 31 #[.string (s.extract at' t)] W fun e w' => ReadE W.heap.size ((s.data.toList.take t).drop at') e w' ∧ Below W.heap.size W w' by
    have := read_any (s.extract at' t) (by simp [ByteArray.size_extract]; omega) W
    rw [cur_ext] at this
    exact this))
  have HMX := Lib.hid (show Tryd.prog.follows .mixedOrders = true by kernel_rfl)
  clear hll
  go_enter Tryd.func12, Tryd.ntmps12
  go_wp2
  go_loopw [5, 6, 7] (fun oo aa nn wr => ∃ (k at' : Nat) (oa : Option Addr) (oc : Nat) (l : List Ve), nn = .int .i64 (k + 1 : Nat) ∧ aa = .int .i64 at' ∧ oo = .slice oa k oc ∧ l.length = k ∧ VesAt wr.heap.size wr oa l ∧ (k ≤ oc ∧ oc ≤ maxLen) ∧ at' ≤ s.size ∧ TabMay l ∧ s.data.toList.take at' = textL l ∧ Below w.heap.size w wr) (fun _ aa _ _ => (s.size - intOf aa).toNat)
  case atStart => exact ⟨0, 0, none, 0, [], rfl, rfl, rfl, rfl, VesAt.nil, ⟨Nat.le_refl _, Nat.zero_le _⟩, Nat.zero_le _, tab_nil, rfl, Below.refl _ _⟩
  case round =>
    obtain ⟨k, at', oa, oc, l, rfl, rfl, rfl, hl, hV, hoc, hat, htab, htx, hb⟩ := hrel
    obtain ⟨wo, rfl⟩ : ∃ x, x = wr := ⟨_, rfl⟩
    have HL := Lib.hid hl
    have HV := Lib.hid hV
    have HOC := Lib.hid hoc
    have HTAB := Lib.hid htab
    have HTX := Lib.hid htx
    have HB := Lib.hid hb
    have HK200 := Lib.hid (show k ≤ 200 by rw [← hl]; exact tab_len htab)
    have hk200 := HK200.out
    clear hl hV hoc htab htx hb
    by_cases hend : at' = s.size
    · have hlt : ¬ (at' : Int) < s.size := by omega
      have HFIN := Lib.hid (show ParseIs s.data.toList l 0 0 from .inl ⟨HTAB.out, by rw [← HTX.out, List.take_of_length_le (by rw [HLL.out, hend]; exact Nat.le_refl _)], rfl, rfl⟩)
      clear hend
      go_wp2
      refine bodyPost_ret (results_rp rfl rfl rfl) rfl ?_
      exact ⟨⟨l, oa, oc, 0, 0, by rw [HL.out]; rfl, HV.out, by rw [HL.out]; exact HOC.out, HFIN.out⟩, HB.out⟩
    have hlts : at' < s.size := by omega
    have hlti : (at' : Int) < s.size := by omega
    clear hend
    go_wp2
    go_loopw [8] (fun tt wr => ∃ t : Nat, at' ≤ t ∧ t ≤ s.size ∧ tt = .int .i64 t ∧ (10 : UInt8) ∉ (s.data.toList.take t).drop at' ∧ wr = wo) (fun tt _ => (s.size - intOf tt).toNat)
    case atStart => exact ⟨at', Nat.le_refl _, hat, rfl, by rw [List.drop_eq_nil_of_le (by rw [List.length_take]; omega)]; simp, rfl⟩
    case round =>
      obtain ⟨t, hat2, hts, rfl, hno, hwo⟩ := hrel
      subst hwo
      have HNO := Lib.hid hno
      clear hno
      by_cases htlt : t < s.size
      case neg =>
        have hte : t = s.size := by omega
        have htli : ¬ (t : Int) < s.size := by omega
        have g9 : ((t : Int) == (s.size : Int)) = true := by simp [hte]
        have HFIN := Lib.hid (show ParseIs s.data.toList [] ((l.length : Int) + 1) 100 from rp_end HTAB.out HTX.out (by rw [HLL.out]; exact hlts) (by
          have := HNO.out
          rwa [List.take_of_length_le (by rw [HLL.out, hte]; exact Nat.le_refl _)] at this))
        clear hte
        go_wp2
        refine bodyPost_ret (results_rp rfl rfl rfl) rfl ?_
        exact ⟨⟨[], none, 0, (k + 1 : Nat), 100, rfl, VesAt.nil, ⟨Nat.le_refl _, Nat.zero_le _⟩, by have := HFIN.out; rw [HL.out] at this; exact this⟩, HB.out⟩
      have htli : (t : Int) < s.size := by omega
      have hget : s.data.toList[t]? = some s[t] := by rw [List.getElem?_eq_getElem (by rw [HLL.out]; exact htlt)]; simp [ByteArray.getElem_eq_getElem_data]
      by_cases h10 : s[t] = 10
      case neg =>
        have hn10 : s[t].toNat ≠ 10 := fun e => h10 (UInt8.toNat_inj.1 e)
        have g1 : ((s[t].toNat : Int) != 10) = true := by simp; omega
        have HN2 := Lib.hid (show (10 : UInt8) ∉ (s.data.toList.take (t + 1)).drop at' by
          rw [drop_take_snoc hget hat2]
          simp only [List.mem_append, List.mem_singleton, not_or]
          exact ⟨HNO.out, fun e => h10 e.symm⟩)
        clear hget h10 hn10
        go_wp2
        go_roundw
        case rel => exact ⟨t + 1, by omega, by omega, by go_num, HN2.out, by first | rfl | trivial⟩
        case measure => first | (simp [intOf]; done) | (simp [intOf]; omega)
      have g1 : ((s[t].toNat : Int) != 10) = false := by rw [h10]; rfl
      have g9 : ((t : Int) == (s.size : Int)) = false := by simp; omega
      rw [h10] at hget
      have HGET := Lib.hid hget
      have hat3 : (at' : Int) ≤ t := by omega
      have hts1 : (t : Int) ≤ s.size := by omega
      have hts2 : (t : Int) + 1 ≤ s.size := by omega
      have hats2 : (at' : Int) ≤ (t : Int) + 1 := by omega
      have ht0 : (0 : Int) ≤ (t : Int) + 1 := by omega
      have hwrt : IntKind.i64.wrap ((t : Int) + 1) = (t : Int) + 1 := by simp only [IntKind.wrap_i64, wrap64]; omega
      have HR1 := Lib.hid (HRD.out at' t hts wr)
      have HCUT := Lib.hid (show (s.extract at' (t + 1)).data.toList = (s.data.toList.take t).drop at' ++ [10] by rw [cur_ext, drop_take_snoc hget hat2])
      have HREF := Lib.hid (fun (h : ∀ u, Follows l u → (s.data.toList.take t).drop at' ++ [10] ≠ lineL u) => (show ParseIs s.data.toList [] ((k + 1 : Nat) : Int) 100 by
        have := rp_no HTAB.out HTX.out hat2 (by rw [HLL.out]; exact htlt) HGET.out HNO.out h
        rw [HL.out] at this
        exact this))
      have HYES := Lib.hid (fun v (h : lineL v = (s.data.toList.take t).drop at' ++ [10]) => rp_yes (l := l) (v := v) HTX.out hat2 (by rw [HLL.out]; exact htlt) HGET.out h)
      clear hget h10
      go_wp2_with fail
      refine HR1.out.mono ?_
      rintro e w2 ⟨⟨f, pa, m, pc, ps, rfl, hm, hO, hRD, hmx⟩, hB2⟩
      have HM := Lib.hid hm
      have HRDN := Lib.hid hRD
      obtain ⟨w3, hw3⟩ : ∃ w3, w2.alloc (.cells #[.int .i64 f, .slice pa m pc] 42) = w3 := ⟨_, rfl⟩
      have hb3 : Below w2.heap.size w2 w3 := by rw [← hw3]; exact (Below.refl _ w2).alloc (Nat.le_refl _) _
      have n3 : w3.heap[w2.heap.size]? = some (.cells #[.int .i64 f, .slice pa m pc] 42 (0, 0)) := by rw [← hw3]; exact heap_alloc_new w2 _
      have hs3 : w3.heap.size = w2.heap.size + 1 := by rw [← hw3]; exact World.size_alloc _ _
      have HO3 := Lib.hid (hO.below hb3 (Nat.le_refl _))
      have HB3 := Lib.hid (HB.out.trans ((hB2.trans (hb3.mono hB2.size)).mono HB.out.size))
      have HV3 := Lib.hid (HV.out.grow (hB2.trans (hb3.mono hB2.size)))
      have HN3 := Lib.hid n3
      have HS3 := Lib.hid hs3
      have HW3 := Lib.hid hw3
      have HONE := Lib.hid (rOne_any f pa m pc ps hm w3 HO3.out.at (by unfold maxLen; omega))
      have c0 : (w2.alloc (.cells #[.int .i64 f, .slice pa m pc] 42)).cell? ⟨w2.heap.size, 0, none⟩ = some (.int .i64 f) := by rw [hw3]; exact cell_of_row _ _ 0 _ _ _ n3
      have c1 : (w2.alloc (.cells #[.int .i64 f, .slice pa m pc] 42)).cell? ⟨w2.heap.size, 1, none⟩ = some (.slice pa m pc) := by rw [hw3]; exact cell_of_row _ _ 1 _ _ _ n3
      clear hm hRD hO hB2 hb3 n3 hs3 hw3 HR1
      go_wp2_with fail
      rw [HW3.out]
      refine HONE.out.mono ?_
      rintro e W0 ⟨rfl, hB⟩
      obtain ⟨ok, hok⟩ : ∃ ok, decide (VerMay ⟨f, ps⟩) = ok := ⟨_, rfl⟩
      have HOK := Lib.hid hok
      rw [hok]
      have C0 := Lib.hid hB
      have HO4 := Lib.hid (HO3.out.below hB (Nat.le_refl _))
      have HB4 := Lib.hid (HB3.out.trans (hB.mono HB3.out.size))
      have HN4 := Lib.hid ((hB.block w2.heap.size (by rw [HS3.out]; omega)).trans HN3.out)
      have HSZ4 := Lib.hid (show w2.heap.size + 1 ≤ W0.heap.size by have := hB.size; have := HS3.out; omega)
      obtain ⟨xs, hxs, hxl, hxr⟩ := rows_of HV3.out (Nat.le_refl _)
      have HXL := Lib.hid (show xs.length = k by rw [hxl, HL.out])
      have HXR := Lib.hid (fun X (hX : Below w3.heap.size w3 X) => (show RwsAt w3.heap.size X oa xs from hxs.next hX (Nat.le_refl _)))
      have HXI := Lib.hid (hxr W0.heap.size C0.out.size)
      have CL := Lib.hid (fun W (hW : Below W0.heap.size W0 W) => (show W.cell? ⟨w2.heap.size, 0, none⟩ = some (.int .i64 f) ∧ W.cell? ⟨w2.heap.size, 1, none⟩ = some (.slice pa m pc) by
        have e2 := (hW.block w2.heap.size (by have := HSZ4.out; omega)).trans HN4.out
        exact ⟨cell_of_row _ _ 0 _ _ _ e2, cell_of_row _ _ 1 _ _ _ e2⟩))
      clear hB hok hxs hxl hxr c0 c1 HONE HW3
      go_wp2
      refine cutR (fun a0 e a' W => e = .normal ∧ ∃ (x2 x5 x7 : Value) (a8 : Option Addr) (c8 : Nat), a' = (((((((a0.put (some 43) (x2)).put (some 44) (.slice oa k oc)).put (some 45) (x5)).put (some 46) (.agg #[.int .i64 f, .slice pa m pc])).put (some 47) (x7)).put (some 48) (.slice a8 (k + 1) c8)).put (some 11) (.slice a8 (k + 1) c8)) ∧ Below W0.heap.size W0 W ∧ OwnE W0.heap.size W (.slice a8 (k + 1) c8) (xs ++ [(⟨f, pa, m, pc⟩ : Rw)])) ?_ ?_
      ·
        refine regionL (fun W => Below W0.heap.size W0 W) 6 HMX.out ?_
        have q1 : Below W0.heap.size W0 W0.drew := ⟨rfl, rfl, rfl, Nat.le_refl _, fun _ _ => rfl⟩
        refine takeL (i := 1) (oi := { dst := some 44, op := Go.Op.move (Go.Operand.tmp 5), type := 22, pos := "ref.go:150", after := #[], guard := none }) (v := .slice oa k oc) [6] rfl (by kernel_rfl) (by kernel_rfl) (by kernel_rfl) (by kernel_rfl) (fun _ _ _ h => calm_panic h) rfl ?_ q1 ?_
        · intro W hW
          (try dsimp only at hW)
          obtain ⟨c0, c1⟩ := CL.out W hW
          go_simp
        simp only [Act.put, List.setIfInBounds_toArray, List.set_cons_zero, List.set_cons_succ]
        refine takeL (i := 3) (oi := { dst := some 46, op := Go.Op.load 42 (Go.Operand.tmp 9), type := 42, pos := "ref.go:150", after := #[], guard := none }) (v := .agg #[.int .i64 f, .slice pa m pc]) [6] rfl (by kernel_rfl) (by kernel_rfl) (by kernel_rfl) (by kernel_rfl) (fun _ _ _ h => calm_panic h) rfl ?_ q1 ?_
        · intro W hW
          (try dsimp only at hW)
          obtain ⟨c0, c1⟩ := CL.out W hW
          go_simp
        simp only [Act.put, List.setIfInBounds_toArray, List.set_cons_zero, List.set_cons_succ]
        have R0 : RS W0.heap.size W0 W0.drew xs (xs ++ [(⟨f, pa, m, pc⟩ : Rw)]) (⟨f, pa, m, pc⟩ : Rw) none none none none := ⟨q1, Nat.le_refl _, fun g e => (by cases e), fun g e => (by cases e), fun g e => (by cases e), fun g e => (by cases e)⟩
        refine twoL (i := 0) (j := 4) (o := { dst := some 43, op := Go.Op.buildSlice 22 0 #[], type := 22, pos := "ref.go:150", after := #[], guard := none }) (o' := { dst := some 47, op := Go.Op.buildSlice 22 1 #[(0, Go.Operand.tmp 46)], type := 22, pos := "ref.go:150", after := #[{ on := 3, ground := Go.Ground.data }], guard := none }) rfl rfl (by kernel_rfl) rfl rfl ?_ ?_
        ·
          refine R0.dotwo (by go_simp) ?_
          intro g1 X1 R1
          refine ⟨fun _ => R1.below, ?_⟩
          simp only [Act.put, List.setIfInBounds_toArray, List.set_cons_zero, List.set_cons_succ]
          refine twoL (i := 2) (j := 4) (o := { dst := some 45, op := Go.Op.call { callee := Go.Callee.builtin Go.Builtin.append, args := #[Go.Operand.tmp 43, Go.Operand.tmp 44], argTypes := #[22, 22] }, type := 22, pos := "ref.go:150", after := #[{ on := 0, ground := Go.Ground.data }, { on := 1, ground := Go.Ground.data }], guard := none }) (o' := { dst := some 47, op := Go.Op.buildSlice 22 1 #[(0, Go.Operand.tmp 46)], type := 22, pos := "ref.go:150", after := #[{ on := 3, ground := Go.Ground.data }], guard := none }) rfl rfl (by kernel_rfl) rfl rfl ?_ ?_
          ·
            refine R1.dofive rfl (.tmp 43) (.tmp 44) rfl rfl oa k oc rfl HXL.out (HXR.out X1 (C0.out.trans (R1.below.mono C0.out.size))) (by have := HK200.out; omega) ?_
            intro a2 c2 X2 R2
            refine ⟨fun _ => R2.below, ?_⟩
            simp only [Act.put, List.setIfInBounds_toArray, List.set_cons_zero, List.set_cons_succ]
            refine oneL (i := 4) (o := { dst := some 47, op := Go.Op.buildSlice 22 1 #[(0, Go.Operand.tmp 46)], type := 22, pos := "ref.go:150", after := #[{ on := 3, ground := Go.Ground.data }], guard := none }) rfl (by kernel_rfl) rfl ?_
            refine R2.doseven (by go_simp) ?_
            intro g3 X3 R3
            refine ⟨fun _ => R3.below, ?_⟩
            simp only [Act.put, List.setIfInBounds_toArray, List.set_cons_zero, List.set_cons_succ]
            refine oneL (i := 5) (o := { dst := some 48, op := Go.Op.call { callee := Go.Callee.builtin Go.Builtin.append, args := #[Go.Operand.tmp 45, Go.Operand.tmp 47], argTypes := #[22, 22] }, type := 22, pos := "ref.go:150", after := #[{ on := 2, ground := Go.Ground.data }, { on := 4, ground := Go.Ground.data }, { on := 2, ground := Go.Ground.chain }], guard := none }) rfl (by kernel_rfl) rfl ?_
            refine R3.doeight rfl (.tmp 45) (.tmp 47) rfl rfl rfl rfl (k + 1) (by rw [HXL.out]) (by have := HK200.out; omega) ?_
            intro a4 c4 X4 R4
            refine ⟨fun _ => R4.below, ?_⟩
            simp only [Act.put, List.setIfInBounds_toArray, List.set_cons_zero, List.set_cons_succ]
            refine oneL (i := 6) (o := { dst := some 11, op := Go.Op.assign (Go.Operand.tmp 48), type := 22, pos := "ref.go:150", after := #[{ on := 5, ground := Go.Ground.data }, { on := 5, ground := Go.Ground.chain }, { on := 0, ground := Go.Ground.phase }, { on := 1, ground := Go.Ground.phase }, { on := 2, ground := Go.Ground.phase }, { on := 3, ground := Go.Ground.phase }, { on := 4, ground := Go.Ground.phase }, { on := 5, ground := Go.Ground.phase }], guard := none }) rfl (by kernel_rfl) rfl ?_
            refine wp_by_run (v := .slice a4 (k + 1) c4) (w' := X4) (by go_simp) ?_
            refine ⟨fun h => absurd rfl h, ?_⟩
            refine doneL (by kernel_rfl) (Calm.normal ⟨rfl, (.slice (some ⟨g1, 0, none⟩) 0 0), (.slice a2 k c2), (.slice (some ⟨g3, 0, none⟩) 1 1), a4, c4, ?_, R4.below, R4.h8 _ rfl⟩) _
            simp only [Act.put, List.setIfInBounds_toArray, List.set_cons_zero, List.set_cons_succ]
          ·
            refine R1.doseven (by go_simp) ?_
            intro g5 X5 R5
            refine ⟨fun _ => R5.below, ?_⟩
            simp only [Act.put, List.setIfInBounds_toArray, List.set_cons_zero, List.set_cons_succ]
            refine oneL (i := 2) (o := { dst := some 45, op := Go.Op.call { callee := Go.Callee.builtin Go.Builtin.append, args := #[Go.Operand.tmp 43, Go.Operand.tmp 44], argTypes := #[22, 22] }, type := 22, pos := "ref.go:150", after := #[{ on := 0, ground := Go.Ground.data }, { on := 1, ground := Go.Ground.data }], guard := none }) rfl (by kernel_rfl) rfl ?_
            refine R5.dofive rfl (.tmp 43) (.tmp 44) rfl rfl oa k oc rfl HXL.out (HXR.out X5 (C0.out.trans (R5.below.mono C0.out.size))) (by have := HK200.out; omega) ?_
            intro a6 c6 X6 R6
            refine ⟨fun _ => R6.below, ?_⟩
            simp only [Act.put, List.setIfInBounds_toArray, List.set_cons_zero, List.set_cons_succ]
            refine oneL (i := 5) (o := { dst := some 48, op := Go.Op.call { callee := Go.Callee.builtin Go.Builtin.append, args := #[Go.Operand.tmp 45, Go.Operand.tmp 47], argTypes := #[22, 22] }, type := 22, pos := "ref.go:150", after := #[{ on := 2, ground := Go.Ground.data }, { on := 4, ground := Go.Ground.data }, { on := 2, ground := Go.Ground.chain }], guard := none }) rfl (by kernel_rfl) rfl ?_
            refine R6.doeight rfl (.tmp 45) (.tmp 47) rfl rfl rfl rfl (k + 1) (by rw [HXL.out]) (by have := HK200.out; omega) ?_
            intro a7 c7 X7 R7
            refine ⟨fun _ => R7.below, ?_⟩
            simp only [Act.put, List.setIfInBounds_toArray, List.set_cons_zero, List.set_cons_succ]
            refine oneL (i := 6) (o := { dst := some 11, op := Go.Op.assign (Go.Operand.tmp 48), type := 22, pos := "ref.go:150", after := #[{ on := 5, ground := Go.Ground.data }, { on := 5, ground := Go.Ground.chain }, { on := 0, ground := Go.Ground.phase }, { on := 1, ground := Go.Ground.phase }, { on := 2, ground := Go.Ground.phase }, { on := 3, ground := Go.Ground.phase }, { on := 4, ground := Go.Ground.phase }, { on := 5, ground := Go.Ground.phase }], guard := none }) rfl (by kernel_rfl) rfl ?_
            refine wp_by_run (v := .slice a7 (k + 1) c7) (w' := X7) (by go_simp) ?_
            refine ⟨fun h => absurd rfl h, ?_⟩
            refine doneL (by kernel_rfl) (Calm.normal ⟨rfl, (.slice (some ⟨g1, 0, none⟩) 0 0), (.slice a6 k c6), (.slice (some ⟨g5, 0, none⟩) 1 1), a7, c7, ?_, R7.below, R7.h8 _ rfl⟩) _
            simp only [Act.put, List.setIfInBounds_toArray, List.set_cons_zero, List.set_cons_succ]
        ·
          refine R0.doseven (by go_simp) ?_
          intro g8 X8 R8
          refine ⟨fun _ => R8.below, ?_⟩
          simp only [Act.put, List.setIfInBounds_toArray, List.set_cons_zero, List.set_cons_succ]
          refine oneL (i := 0) (o := { dst := some 43, op := Go.Op.buildSlice 22 0 #[], type := 22, pos := "ref.go:150", after := #[], guard := none }) rfl (by kernel_rfl) rfl ?_
          refine R8.dotwo (by go_simp) ?_
          intro g9 X9 R9
          refine ⟨fun _ => R9.below, ?_⟩
          simp only [Act.put, List.setIfInBounds_toArray, List.set_cons_zero, List.set_cons_succ]
          refine oneL (i := 2) (o := { dst := some 45, op := Go.Op.call { callee := Go.Callee.builtin Go.Builtin.append, args := #[Go.Operand.tmp 43, Go.Operand.tmp 44], argTypes := #[22, 22] }, type := 22, pos := "ref.go:150", after := #[{ on := 0, ground := Go.Ground.data }, { on := 1, ground := Go.Ground.data }], guard := none }) rfl (by kernel_rfl) rfl ?_
          refine R9.dofive rfl (.tmp 43) (.tmp 44) rfl rfl oa k oc rfl HXL.out (HXR.out X9 (C0.out.trans (R9.below.mono C0.out.size))) (by have := HK200.out; omega) ?_
          intro a10 c10 X10 R10
          refine ⟨fun _ => R10.below, ?_⟩
          simp only [Act.put, List.setIfInBounds_toArray, List.set_cons_zero, List.set_cons_succ]
          refine oneL (i := 5) (o := { dst := some 48, op := Go.Op.call { callee := Go.Callee.builtin Go.Builtin.append, args := #[Go.Operand.tmp 45, Go.Operand.tmp 47], argTypes := #[22, 22] }, type := 22, pos := "ref.go:150", after := #[{ on := 2, ground := Go.Ground.data }, { on := 4, ground := Go.Ground.data }, { on := 2, ground := Go.Ground.chain }], guard := none }) rfl (by kernel_rfl) rfl ?_
          refine R10.doeight rfl (.tmp 45) (.tmp 47) rfl rfl rfl rfl (k + 1) (by rw [HXL.out]) (by have := HK200.out; omega) ?_
          intro a11 c11 X11 R11
          refine ⟨fun _ => R11.below, ?_⟩
          simp only [Act.put, List.setIfInBounds_toArray, List.set_cons_zero, List.set_cons_succ]
          refine oneL (i := 6) (o := { dst := some 11, op := Go.Op.assign (Go.Operand.tmp 48), type := 22, pos := "ref.go:150", after := #[{ on := 5, ground := Go.Ground.data }, { on := 5, ground := Go.Ground.chain }, { on := 0, ground := Go.Ground.phase }, { on := 1, ground := Go.Ground.phase }, { on := 2, ground := Go.Ground.phase }, { on := 3, ground := Go.Ground.phase }, { on := 4, ground := Go.Ground.phase }, { on := 5, ground := Go.Ground.phase }], guard := none }) rfl (by kernel_rfl) rfl ?_
          refine wp_by_run (v := .slice a11 (k + 1) c11) (w' := X11) (by go_simp) ?_
          refine ⟨fun h => absurd rfl h, ?_⟩
          refine doneL (by kernel_rfl) (Calm.normal ⟨rfl, (.slice (some ⟨g9, 0, none⟩) 0 0), (.slice a10 k c10), (.slice (some ⟨g8, 0, none⟩) 1 1), a11, c11, ?_, R11.below, R11.h8 _ rfl⟩) _
          simp only [Act.put, List.setIfInBounds_toArray, List.set_cons_zero, List.set_cons_succ]
      rintro e a' W6 ⟨rfl, x2, x5, x7, a8, c8, rfl, hB6, hO6⟩
      simp only [Act.put, List.setIfInBounds_toArray, List.set_cons_zero, List.set_cons_succ]
      have HB6 := Lib.hid (HB4.out.trans (hB6.mono HB4.out.size))
      have hlen : (l ++ [(⟨f, ps⟩ : Ve)]).length = k + 1 := by rw [List.length_append, HL.out]; rfl
      have hvn : VesAt W6.heap.size W6 a8 (l ++ [(⟨f, ps⟩ : Ve)]) := hO6.ves (RwIs.app (HXI.out.below (C0.out.trans (hB6.mono C0.out.size))) ((own_is HO4.out HM.out).below hB6))
      have hcap : k + 1 ≤ c8 ∧ c8 ≤ maxLen := by
        have := hO6.caps2
        rw [List.length_append, HXL.out] at this
        exact this
      have HVN := Lib.hid hvn
      have HCAP := Lib.hid hcap
      have hck := rCheck_any a8 (k + 1) c8 (l ++ [(⟨f, ps⟩ : Ve)]) hlen W6.drew hvn hcap
      have HLEN := Lib.hid hlen
      have hn6 := (hB6.block w2.heap.size (by have := HSZ4.out; omega)).trans HN4.out
      have HN6 := Lib.hid hn6
      have HZ6 := Lib.hid (show w2.heap.size < W6.heap.size by have := hB6.size; have := HSZ4.out; omega)
      have HO7 := Lib.hid (HO4.out.below hB6 (Nat.le_refl _))
      have q1 : W6.drew.cell? ⟨w2.heap.size, 0, none⟩ = some (.int .i64 f) ∧ W6.drew.cell? ⟨w2.heap.size, 1, none⟩ = some (.slice pa m pc) := ⟨cell_of_row W6 _ 0 _ _ _ hn6, cell_of_row W6 _ 1 _ _ _ hn6⟩
      clear hlen hvn hcap hB6 hO6 hn6 CL HXR HXI HXL HO4 HN4 HSZ4 C0 HB4 HV3 HN3 HS3 HO3 HB3
      cases ok with
      | false =>
        have HFIN := Lib.hid (HREF.out (fun u hu e => absurd (by have := rp_read HRDN.out hu e; rw [this]; exact hu.2.1) (of_decide_eq_false HOK.out)))
        clear hck q1
        go_wp2_with fail
        go_quiet (fail)
        go_wp2
        refine bodyPost_ret (results_rp rfl rfl rfl) rfl ?_
        exact ⟨⟨[], none, 0, (k + 1 : Nat), 100, rfl, VesAt.nil, ⟨Nat.le_refl _, Nat.zero_le _⟩, HFIN.out⟩, below_drewN HB6.out _⟩
      | true =>
      by_cases htb : TabMay (l ++ [(⟨f, ps⟩ : Ve)])
      case neg =>
        rw [tErr_no htb] at hck
        have HCK := Lib.hid hck
        have HFIN := Lib.hid (HREF.out (fun u hu e => by
          have := rp_read HRDN.out hu e
          rw [this] at htb
          exact htb ((tab_snoc l u).2 ⟨HTAB.out, hu⟩)))
        clear hck htb
        go_wp2_with fail
        refine regionL (fun W => Below W6.heap.size W6 W) 16 HMX.out ?_
        have s1 : Below W6.heap.size W6 W6.drew := ⟨rfl, rfl, rfl, Nat.le_refl _, fun _ _ => rfl⟩
        refine takeY (i := 0) (oi := { dst := some 49, op := Go.Op.move (Go.Operand.tmp 10), type := 4, pos := "ref.go:151", after := #[], guard := none }) (v := .bool true) [1, 2, 4, 5, 6, 7, 16] rfl (by kernel_rfl) (by kernel_rfl) (by kernel_rfl) (by kernel_rfl) (fun _ _ _ h => calm_panic h) (.inl ⟨by rfl, fun W hW => by go_simp⟩) s1 ?_
        simp only [Act.put, List.setIfInBounds_toArray, List.set_cons_zero, List.set_cons_succ]
        refine takeY (i := 1) (oi := { dst := some 50, op := Go.Op.unOp Go.UnOp.not 4 (Go.Operand.tmp 49), type := 4, pos := "ref.go:151", after := #[{ on := 0, ground := Go.Ground.data }], guard := none }) (v := .bool false) [2, 4, 5, 6, 7, 16] rfl (by kernel_rfl) (by kernel_rfl) (by kernel_rfl) (by kernel_rfl) (fun _ _ _ h => calm_panic h) (.inl ⟨by rfl, fun W hW => by go_simp⟩) s1 ?_
        simp only [Act.put, List.setIfInBounds_toArray, List.set_cons_zero, List.set_cons_succ]
        refine takeY (i := 2) (oi := { dst := some 51, op := Go.Op.move (Go.Operand.tmp 50), type := 4, pos := "ref.go:151", after := #[{ on := 1, ground := Go.Ground.data }], guard := none }) (v := .bool false) [4, 5, 6, 7, 16] rfl (by kernel_rfl) (by kernel_rfl) (by kernel_rfl) (by kernel_rfl) (fun _ _ _ h => calm_panic h) (.inl ⟨by rfl, fun W hW => by go_simp⟩) s1 ?_
        simp only [Act.put, List.setIfInBounds_toArray, List.set_cons_zero, List.set_cons_succ]
        refine takeY (i := 3) (oi := { dst := some 52, op := Go.Op.move (Go.Operand.tmp 11), type := 22, pos := "ref.go:151", after := #[{ on := 2, ground := Go.Ground.guard }], guard := some (2, false) }) (v := .slice a8 (k + 1) c8) [4, 5, 6, 7, 16] rfl (by kernel_rfl) (by kernel_rfl) (by kernel_rfl) (by kernel_rfl) (fun _ _ _ h => calm_panic h) (.inl ⟨by rfl, fun W hW => by go_simp⟩) s1 ?_
        simp only [Act.put, List.setIfInBounds_toArray, List.set_cons_zero, List.set_cons_succ]
        refine oneW (i := 4) (o := { dst := some 53, op := Go.Op.call { callee := Go.Callee.value (Go.Operand.func 26), args := #[Go.Operand.tmp 52], argTypes := #[22] }, type := 3, pos := "ref.go:151", after := #[{ on := 3, ground := Go.Ground.data }, { on := 2, ground := Go.Ground.chain }, { on := 2, ground := Go.Ground.guard }], guard := some (2, false) }) rfl (by kernel_rfl) (by rfl) ?_
        refine wp_by_call (f := 26) (args := #[.slice a8 (k + 1) c8]) (by go_simp) ?_
        refine HCK.out.mono ?_
        rintro e w2' ⟨rfl, hB2'⟩
        have s2 : Below W6.heap.size W6 w2' := s1.trans hB2'
        have HB2 := Lib.hid (HB6.out.trans (s2.mono HB6.out.size))
        refine ⟨_, rfl, fun _ => s2, ?_⟩
        simp only [Act.put, List.setIfInBounds_toArray, List.set_cons_zero, List.set_cons_succ]
        refine takeY (i := 5) (oi := { dst := some 54, op := Go.Op.binOp Go.BinOp.neq 3 (Go.Operand.tmp 53) (Go.Operand.const (Go.Value.int Go.IntKind.i64 0)) 3, type := 4, pos := "ref.go:151", after := #[{ on := 4, ground := Go.Ground.data }, { on := 2, ground := Go.Ground.guard }], guard := some (2, false) }) (v := .bool true) [6, 7, 16] rfl (by kernel_rfl) (by kernel_rfl) (by kernel_rfl) (by kernel_rfl) (fun _ _ _ h => calm_panic h) (.inl ⟨by rfl, fun W hW => by go_simp⟩) s2 ?_
        simp only [Act.put, List.setIfInBounds_toArray, List.set_cons_zero, List.set_cons_succ]
        refine takeY (i := 6) (oi := { dst := some 55, op := Go.Op.pick (Go.Operand.tmp 51) (Go.Operand.const (Go.Value.bool true)) (Go.Operand.tmp 54), type := 4, pos := "ref.go:151", after := #[{ on := 2, ground := Go.Ground.data }, { on := 5, ground := Go.Ground.data }], guard := none }) (v := .bool true) [7, 16] rfl (by kernel_rfl) (by kernel_rfl) (by kernel_rfl) (by kernel_rfl) (fun _ _ _ h => calm_panic h) (.inl ⟨by rfl, fun W hW => by go_simp⟩) s2 ?_
        simp only [Act.put, List.setIfInBounds_toArray, List.set_cons_zero, List.set_cons_succ]
        refine takeY (i := 7) (oi := { dst := some 56, op := Go.Op.move (Go.Operand.tmp 55), type := 4, pos := "ref.go:151", after := #[{ on := 6, ground := Go.Ground.data }, { on := 4, ground := Go.Ground.chain }], guard := none }) (v := .bool true) [16] rfl (by kernel_rfl) (by kernel_rfl) (by kernel_rfl) (by kernel_rfl) (fun _ _ _ h => calm_panic h) (.inl ⟨by rfl, fun W hW => by go_simp⟩) s2 ?_
        simp only [Act.put, List.setIfInBounds_toArray, List.set_cons_zero, List.set_cons_succ]
        refine takeY (i := 8) (oi := { dst := some 57, op := Go.Op.load 42 (Go.Operand.tmp 9), type := 42, pos := "ref.go:151", after := #[{ on := 7, ground := Go.Ground.guard }], guard := some (7, false) }) (v := undef) [9, 15, 16] rfl (by kernel_rfl) (by kernel_rfl) (by kernel_rfl) (by kernel_rfl) (fun _ _ _ h => calm_panic h) (.inr ⟨by rfl, rfl⟩) s2 ?_
        simp only [Act.put, List.setIfInBounds_toArray, List.set_cons_zero, List.set_cons_succ]
        refine takeY (i := 9) (oi := { dst := some 58, op := Go.Op.call { callee := Go.Callee.value (Go.Operand.func 27), args := #[Go.Operand.tmp 57], argTypes := #[42] }, type := 9, pos := "ref.go:151", after := #[{ on := 8, ground := Go.Ground.data }, { on := 7, ground := Go.Ground.chain }, { on := 7, ground := Go.Ground.guard }], guard := some (7, false) }) (v := undef) [15, 16] rfl (by kernel_rfl) (by kernel_rfl) (by kernel_rfl) (by kernel_rfl) (fun _ _ _ h => calm_panic h) (.inr ⟨by rfl, rfl⟩) s2 ?_
        simp only [Act.put, List.setIfInBounds_toArray, List.set_cons_zero, List.set_cons_succ]
        refine takeY (i := 10) (oi := { dst := some 59, op := Go.Op.move (Go.Operand.tmp 0), type := 9, pos := "ref.go:151", after := #[{ on := 7, ground := Go.Ground.guard }], guard := some (7, false) }) (v := undef) [14, 15, 16] rfl (by kernel_rfl) (by kernel_rfl) (by kernel_rfl) (by kernel_rfl) (fun _ _ _ h => calm_panic h) (.inr ⟨by rfl, rfl⟩) s2 ?_
        simp only [Act.put, List.setIfInBounds_toArray, List.set_cons_zero, List.set_cons_succ]
        refine takeY (i := 11) (oi := { dst := some 60, op := Go.Op.move (Go.Operand.tmp 6), type := 3, pos := "ref.go:151", after := #[{ on := 7, ground := Go.Ground.guard }], guard := some (7, false) }) (v := undef) [14, 15, 16] rfl (by kernel_rfl) (by kernel_rfl) (by kernel_rfl) (by kernel_rfl) (fun _ _ _ h => calm_panic h) (.inr ⟨by rfl, rfl⟩) s2 ?_
        simp only [Act.put, List.setIfInBounds_toArray, List.set_cons_zero, List.set_cons_succ]
        refine takeY (i := 12) (oi := { dst := some 61, op := Go.Op.move (Go.Operand.tmp 8), type := 3, pos := "ref.go:151", after := #[{ on := 7, ground := Go.Ground.guard }], guard := some (7, false) }) (v := undef) [13, 14, 15, 16] rfl (by kernel_rfl) (by kernel_rfl) (by kernel_rfl) (by kernel_rfl) (fun _ _ _ h => calm_panic h) (.inr ⟨by rfl, rfl⟩) s2 ?_
        simp only [Act.put, List.setIfInBounds_toArray, List.set_cons_zero, List.set_cons_succ]
        refine takeY (i := 13) (oi := { dst := some 62, op := Go.Op.binOp Go.BinOp.add 3 (Go.Operand.tmp 61) (Go.Operand.const (Go.Value.int Go.IntKind.i64 1)) 3, type := 3, pos := "ref.go:151", after := #[{ on := 12, ground := Go.Ground.data }, { on := 7, ground := Go.Ground.guard }], guard := some (7, false) }) (v := undef) [14, 15, 16] rfl (by kernel_rfl) (by kernel_rfl) (by kernel_rfl) (by kernel_rfl) (fun _ _ _ h => calm_panic h) (.inr ⟨by rfl, rfl⟩) s2 ?_
        simp only [Act.put, List.setIfInBounds_toArray, List.set_cons_zero, List.set_cons_succ]
        refine takeY (i := 14) (oi := { dst := some 63, op := Go.Op.slice 9 (Go.Operand.tmp 59) (some (Go.Operand.tmp 60)) (some (Go.Operand.tmp 62)) none, type := 9, pos := "ref.go:151", after := #[{ on := 10, ground := Go.Ground.data }, { on := 11, ground := Go.Ground.data }, { on := 13, ground := Go.Ground.data }, { on := 7, ground := Go.Ground.guard }], guard := some (7, false) }) (v := undef) [15, 16] rfl (by kernel_rfl) (by kernel_rfl) (by kernel_rfl) (by kernel_rfl) (fun _ _ _ h => calm_panic h) (.inr ⟨by rfl, rfl⟩) s2 ?_
        simp only [Act.put, List.setIfInBounds_toArray, List.set_cons_zero, List.set_cons_succ]
        refine takeY (i := 15) (oi := { dst := some 64, op := Go.Op.binOp Go.BinOp.neq 9 (Go.Operand.tmp 58) (Go.Operand.tmp 63) 9, type := 4, pos := "ref.go:151", after := #[{ on := 9, ground := Go.Ground.data }, { on := 14, ground := Go.Ground.data }, { on := 7, ground := Go.Ground.guard }], guard := some (7, false) }) (v := undef) [16] rfl (by kernel_rfl) (by kernel_rfl) (by kernel_rfl) (by kernel_rfl) (fun _ _ _ h => calm_panic h) (.inr ⟨by rfl, rfl⟩) s2 ?_
        simp only [Act.put, List.setIfInBounds_toArray, List.set_cons_zero, List.set_cons_succ]
        refine oneL (i := 16) (o := { dst := some 65, op := Go.Op.pick (Go.Operand.tmp 56) (Go.Operand.const (Go.Value.bool true)) (Go.Operand.tmp 64), type := 4, pos := "ref.go:151", after := #[{ on := 7, ground := Go.Ground.data }, { on := 15, ground := Go.Ground.data }], guard := none }) rfl (by kernel_rfl) rfl ?_
        refine wp_by_run (v := .bool true) (w' := w2') (by go_simp) ?_
        refine ⟨fun h => absurd rfl h, ?_⟩
        refine doneL (by kernel_rfl) (Calm.normal ?_) _
        simp only [Act.put, List.setIfInBounds_toArray, List.set_cons_zero, List.set_cons_succ]
        clear s1 s2 hB2' q1
        go_wp2
        refine bodyPost_ret (results_rp rfl rfl rfl) rfl ?_
        exact ⟨⟨[], none, 0, (k + 1 : Nat), 100, rfl, VesAt.nil, ⟨Nat.le_refl _, Nat.zero_le _⟩, HFIN.out⟩, HB2.out⟩
      case pos =>
        rw [tErr_yes htb] at hck
        have HCK := Lib.hid hck
        have HTB := Lib.hid htb
        have hvm : VerMay ⟨f, ps⟩ := of_decide_eq_true HOK.out
        have HLN := Lib.hid (fun W (hW : Below W6.heap.size W6 W) => rline_any f pa m pc ps HM.out hvm W (HO7.out.at.grow hW))
        have HCMP := Lib.hid (show ((⟨(lineL ⟨f, ps⟩).toArray⟩ : ByteArray) = s.extract at' (t + 1)) ↔ lineL ⟨f, ps⟩ = (s.data.toList.take t).drop at' ++ [10] by
          rw [← HCUT.out]
          constructor
          · intro e; rw [← e]
          · intro e; rw [e])
        obtain ⟨D, hD⟩ : ∃ D, lineL ⟨f, ps⟩ = D := ⟨_, rfl⟩
        have HD := Lib.hid hD
        rw [hD] at HLN HCMP
        clear hck htb hvm hD
        by_cases hq : (⟨D.toArray⟩ : ByteArray) = s.extract at' (t + 1)
        · have hd1 : decide ((⟨D.toArray⟩ : ByteArray) = s.extract at' (t + 1)) = true := decide_eq_true hq
          have hd2 : (D == (s.extract at' (t + 1)).toList) = true := bytes_list.2 hq
          have HTX2 := Lib.hid (HYES.out ⟨f, ps⟩ (by rw [HD.out]; exact HCMP.out.1 hq))
          have HQ := Lib.hid hq
          clear hq
          go_wp2_with fail
          go_region_held3 (fun w' => w'.cell? ⟨w2.heap.size, 0, none⟩ = some (.int .i64 f) ∧ w'.cell? ⟨w2.heap.size, 1, none⟩ = some (.slice pa m pc))
            (first | (with_reducible exact q1) | (with_reducible exact q2) | (with_reducible exact q3) | go_keep)
            (first
              | (go_at_call 26; ((with_reducible refine HCK.out.mono ?_); rintro e w2' ⟨rfl, hB2'⟩; have g2 := (hB2'.block w2.heap.size HZ6.out).trans HN6.out; have q2 : w2'.cell? ⟨w2.heap.size, 0, none⟩ = some (.int .i64 f) ∧ w2'.cell? ⟨w2.heap.size, 1, none⟩ = some (.slice pa m pc) := ⟨cell_of_row w2' _ 0 _ _ _ g2, cell_of_row w2' _ 1 _ _ _ g2⟩; have HG2 := Lib.hid g2; have HBW2 := Lib.hid ((Below.refl W6.heap.size W6).drew.trans hB2'); clear g2 hB2'))
              | (go_at_call 27; ((with_reducible refine (HLN.out _ HBW2.out).mono ?_); rintro e w3' ⟨rfl, hB3'⟩; have g3 := (hB3'.block w2.heap.size (by have := HZ6.out; have := HBW2.out.size; omega)).trans HG2.out; have q3 : w3'.cell? ⟨w2.heap.size, 0, none⟩ = some (.int .i64 f) ∧ w3'.cell? ⟨w2.heap.size, 1, none⟩ = some (.slice pa m pc) := ⟨cell_of_row w3' _ 0 _ _ _ g3, cell_of_row w3' _ 1 _ _ _ g3⟩; have HBW3 := Lib.hid (HBW2.out.trans (hB3'.mono HBW2.out.size)); clear g3 hB3')))
          all_goals
            rename_i hHeld
            clear hHeld q1 q2 q3
            go_wp2
            go_roundw
            case rel => exact ⟨k + 1, t + 1, a8, c8, l ++ [⟨f, ps⟩], by first | rfl | go_num, by first | rfl | go_num, by first | rfl | go_num, HLEN.out, HVN.out.grow HBW3.out, HCAP.out, by omega, HTB.out, HTX2.out, HB6.out.trans (HBW3.out.mono HB6.out.size)⟩
            case measure => first | (simp [intOf]; done) | (simp [intOf]; omega)
        · have hd1 : decide ((⟨D.toArray⟩ : ByteArray) = s.extract at' (t + 1)) = false := decide_eq_false hq
          have hd2 : (D == (s.extract at' (t + 1)).toList) = false := by
            cases hb : (D == (s.extract at' (t + 1)).toList) with
            | false => rfl
            | true => exact absurd (bytes_list.1 hb) hq
          have HFIN := Lib.hid (HREF.out (fun u hu e => by
            have h1 := rp_read HRDN.out hu e
            exact hq (HCMP.out.2 (by rw [← HD.out, h1, e]))))
          clear hq
          go_wp2_with fail
          go_region_held3 (fun w' => w'.cell? ⟨w2.heap.size, 0, none⟩ = some (.int .i64 f) ∧ w'.cell? ⟨w2.heap.size, 1, none⟩ = some (.slice pa m pc))
            (first | (with_reducible exact q1) | (with_reducible exact q2) | (with_reducible exact q3) | go_keep)
            (first
              | (go_at_call 26; ((with_reducible refine HCK.out.mono ?_); rintro e w2' ⟨rfl, hB2'⟩; have g2 := (hB2'.block w2.heap.size HZ6.out).trans HN6.out; have q2 : w2'.cell? ⟨w2.heap.size, 0, none⟩ = some (.int .i64 f) ∧ w2'.cell? ⟨w2.heap.size, 1, none⟩ = some (.slice pa m pc) := ⟨cell_of_row w2' _ 0 _ _ _ g2, cell_of_row w2' _ 1 _ _ _ g2⟩; have HG2 := Lib.hid g2; have HBW2 := Lib.hid ((Below.refl W6.heap.size W6).drew.trans hB2'); clear g2 hB2'))
              | (go_at_call 27; ((with_reducible refine (HLN.out _ HBW2.out).mono ?_); rintro e w3' ⟨rfl, hB3'⟩; have g3 := (hB3'.block w2.heap.size (by have := HZ6.out; have := HBW2.out.size; omega)).trans HG2.out; have q3 : w3'.cell? ⟨w2.heap.size, 0, none⟩ = some (.int .i64 f) ∧ w3'.cell? ⟨w2.heap.size, 1, none⟩ = some (.slice pa m pc) := ⟨cell_of_row w3' _ 0 _ _ _ g3, cell_of_row w3' _ 1 _ _ _ g3⟩; have HBW3 := Lib.hid (HBW2.out.trans (hB3'.mono HBW2.out.size)); clear g3 hB3')))
          all_goals
            rename_i hHeld
            clear hHeld q1 q2 q3
            go_wp2
            refine bodyPost_ret (results_rp rfl rfl rfl) rfl ?_
            exact ⟨⟨[], none, 0, (k + 1 : Nat), 100, rfl, VesAt.nil, ⟨Nat.le_refl _, Nat.zero_le _⟩, HFIN.out⟩, HB6.out.trans (HBW3.out.mono HB6.out.size)⟩
end Go.Proofs.YthlpigffjbhmoaaDoor
