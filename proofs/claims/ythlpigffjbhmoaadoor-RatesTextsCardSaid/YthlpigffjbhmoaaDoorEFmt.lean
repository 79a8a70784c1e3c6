/- The contracts of FormatInt and numberIn. -/
import Derived.Test.YthlpigffjbhmoaaDoorEShelf
import Derived.Test.YthlpigffjbhmoaaDoorDNum
import Derived.Below
import Derived.Lib.LaidTab
import Derived.Lib.SmallJoins
import Derived.Lib.SlicesS
import Derived.Lib.ParseIntBTie
set_option linter.unusedVariables false
set_option linter.unusedSimpArgs false
namespace Go.Proofs.YthlpigffjbhmoaaDoor
open Go.RowKit Go.Shelf
/-- What the library's table holds. -/
structure Pow (w : World) : Prop where
  pow : ∃ T fr, w.heap[0]? = some (.cells (Lib.pow10Tab.map fun z => Value.int .u64 z).toArray T fr)
/-- What the library's tables and sentinels hold. -/
structure TabsD (w : World) : Prop where
  pow : Pow w
  ml : ∃ m : Int, w.cell? ⟨1, 0, none⟩ = some (.int .i64 m)
  e4 : ∃ ev, w.cell? ⟨2, 0, none⟩ = some ev ∧ (ev = .nilIface ∨ ∃ te pe, ev = .iface te pe)
  e5 : ∃ ev, w.cell? ⟨3, 0, none⟩ = some ev ∧ (ev = .nilIface ∨ ∃ te pe, ev = .iface te pe)
theorem Pow.next {B : Nat} {w w' : World} (h : Pow w) (hb : Below B w w') (hB : w.heap.size ≤ B) : Pow w' := by
  obtain ⟨T, fr, h1⟩ := h.pow
  exact ⟨T, fr, (hb.block _ (Nat.lt_of_lt_of_le (Array.getElem?_eq_some_iff.1 h1).1 hB)).trans h1⟩
theorem TabsD.next {B : Nat} {w w' : World} (h : TabsD w) (hb : Below B w w') (hB : w.heap.size ≤ B) : TabsD w' := by
  obtain ⟨hp, ⟨m, h2⟩, ⟨ev, h3, h4⟩, ⟨ev', h5, h6⟩⟩ := h
  have hx : ∀ (p : Addr) v, w.cell? p = some v → w'.cell? p = some v := fun p v hp => (hb.cell (p := p) (Nat.lt_of_lt_of_le (World.block_lt_of_cell? w p hp) hB)).trans hp
  exact ⟨hp.next hb hB, ⟨m, hx _ _ h2⟩, ⟨ev, hx _ _ h3, h4⟩, ⟨ev', hx _ _ h5, h6⟩⟩
theorem gPow : Tryd.prog.globalNamed "internal/strconv.uint64pow10" = some 0 := by kernel_rfl
theorem Pow.tab {w : World} (h : Pow w) : Lib.TabIs Tryd.prog w "internal/strconv.uint64pow10" .u64 Lib.pow10Tab := by
  obtain ⟨T, fr, h⟩ := h.pow
  unfold Lib.TabIs World.var?
  simp only [gPow, Option.bind_some, h]
theorem below_grow (w : World) (os : Array Obj) : Below w.heap.size w (Go.Sort.grow w os) :=
  ⟨rfl, rfl, rfl, by unfold Go.Sort.grow; simp, fun k hk => by unfold Go.Sort.grow; simp [Array.getElem?_append, hk]⟩
theorem below_drew' (w : World) (n : Nat) : Below w.heap.size w (w.drewN n) := ⟨rfl, rfl, rfl, Nat.le_refl _, fun _ _ => rfl⟩
theorem below_bytes (w : World) (e : TypeId) (t : ByteArray) : Below w.heap.size w (Lib.bytesWorld w e t) := Go.Joins.below_bytesWorld _ w e t (Nat.le_refl _)
/-- strconv.FormatInt at base 10. -/
theorem format_any (n : Int) (h : I64 n) (w : World) (hT : Pow w) : Calls Tryd.prog 40 #[.int .i64 n, .int .i64 10] w fun e w' => e = .returned (.string ⟨(Lib.itoa n).toArray⟩) ∧ Below w.heap.size w w' := by
  refine (strconv_FormatInt_10 n h.1 h.2 w hT.tab).mono ?_
  rintro e w' ⟨rfl, k, os, rfl⟩
  exact ⟨rfl, (below_drew' w k).trans ((below_grow (w.drewN k) os).mono (below_drew' w k).size)⟩
/-- The number whose text is l, and whether there is one. -/
def NumIs (l : List UInt8) (n : Int) (ok : Bool) : Prop := (ok = true → I64 n ∧ l = Lib.itoa n) ∧ (ok = false → ∀ m, I64 m → l ≠ Lib.itoa m)
def NumE (l : List UInt8) (e : Ending) : Prop := ∃ n ok, NumIs l n ok ∧ e = .returned (.tuple #[.int .i64 n, .bool ok])
theorem NumE.mk {l : List UInt8} {n : Int} {ok : Bool} (h : NumIs l n ok) : NumE l (.returned (.tuple #[.int .i64 n, .bool ok])) := ⟨n, ok, h, rfl⟩
theorem bytes_list {l : List UInt8} {s : ByteArray} : (l == s.toList) = true ↔ (⟨l.toArray⟩ : ByteArray) = s := by
  rw [beq_iff_eq, ByteArray.toList_eq]
  exact ⟨fun h => ByteArray.ext (by rw [h]), fun h => by rw [← h]⟩
theorem num_ok {l : List UInt8} {v : Int} {b : Bool} (h : Lib.atoiAll l = .ok v) (s : ByteArray) (hs : s.data.toList = l) (hb : b = true ↔ (⟨(Lib.itoa v).toArray⟩ : ByteArray) = s) : NumIs l v b := by
  have hv := ok_i64 h
  refine ⟨fun q => ⟨hv, ?_⟩, fun q m hm e => ?_⟩
  · rw [← hs, ← hb.1 q]
  · rw [e, atoi_itoa hm] at h
    injection h with h
    have : (⟨(Lib.itoa v).toArray⟩ : ByteArray) = s := by
      cases s with
      | mk d =>
        congr 1
        rw [← h, ← e, ← hs]
    rw [hb.2 this] at q
    cases q
theorem num_no {l : List UInt8} {n : Int} (h : ∀ v, Lib.atoiAll l ≠ .ok v) : NumIs l n false := ⟨fun h => (by cases h), fun _ m hm e => h m (by rw [e]; exact atoi_itoa hm)⟩
set_option maxRecDepth 100000 in
set_option maxHeartbeats 2000000 in
theorem numberIn_any (s : ByteArray) (hs : s.size ≤ 1000000) (w : World) (hT : TabsD w) : Calls Tryd.prog 46 #[.string s] w fun e w' => NumE s.data.toList e ∧ Below w.heap.size w w' := by
  have HT := Lib.hid hT
  clear hT
  cases ha : Lib.atoiAll s.data.toList with
  | ok v =>
    have HN := Lib.hid (fun b hb => num_ok (b := b) ha s rfl hb)
    have HV := Lib.hid (ok_i64 ha)
    have HA := Lib.hid (strconv_ParseInt_10_at64_ok s (by omega) v (by rw [Lib.parseIntB_64]; exact ha) w)
    clear ha
    go_enter Tryd.func46, Tryd.ntmps46
    go_wp2_with fail
    refine HA.out.mono ?_
    rintro e w1 ⟨rfl, hw1⟩
    have hB1 : Below w.heap.size w w1 := by
      rcases hw1 with rfl | ⟨t, rfl⟩
      · exact Below.refl _ _
      · exact below_bytes _ _ _
    have HB1 := Lib.hid hB1
    have HT1 := Lib.hid (HT.out.next hB1 (Nat.le_refl _))
    clear hw1 hB1 HA
    go_wp2_with fail
    refine (format_any v HV.out w1 HT1.out.pow).mono ?_
    rintro e w2 ⟨rfl, hB2⟩
    have HB2 := Lib.hid (HB1.out.trans (hB2.mono HB1.out.size))
    clear hB2
    go_wp2
    go_ret2
    exact ⟨NumE.mk (HN.out _ bytes_list), HB2.out⟩
  | «syntax» =>
    have HN := Lib.hid (num_no (l := s.data.toList) (n := 0) (by rw [ha]; intro v h; cases h))
    obtain ⟨ev, hv, hev⟩ := HT.out.e4
    have HA := Lib.hid (strconv_ParseInt_10_at64_syntax s (by omega) (by rw [Lib.parseIntB_64]; exact ha) ev w hv hev)
    clear ha hv hev
    go_enter Tryd.func46, Tryd.ntmps46
    go_wp2_with fail
    refine HA.out.mono ?_
    rintro e w1 ⟨n, rfl, _, _, hB1⟩
    have HB1 := Lib.hid hB1
    clear hB1 HA
    go_wp2
    go_ret2
    exact ⟨NumE.mk HN.out, HB1.out⟩
  | range =>
    have HN := Lib.hid (num_no (l := s.data.toList) (n := Lib.intSat 64 s.data.toList) (by rw [ha]; intro v h; cases h))
    obtain ⟨ev, hv, hev⟩ := HT.out.e5
    obtain ⟨z, hz⟩ : ∃ z, Lib.intSat 64 s.data.toList = z := ⟨_, rfl⟩
    have ha' := strconv_ParseInt_10_at64_range s (by omega) (by rw [Lib.parseIntB_64]; exact ha) ev w hv hev
    rw [hz] at ha' HN
    have HA := Lib.hid ha'
    clear ha hv hev ha' hz
    go_enter Tryd.func46, Tryd.ntmps46
    go_wp2_with fail
    refine HA.out.mono ?_
    rintro e w1 ⟨n, rfl, _, _, hB1⟩
    have HB1 := Lib.hid hB1
    clear hB1 HA
    go_wp2
    go_ret2
    exact ⟨NumE.mk HN.out, HB1.out⟩
end Go.Proofs.YthlpigffjbhmoaaDoor
