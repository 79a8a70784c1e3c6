/- The document's At of a tariff. -/
import Derived.Test.YtbffmobjiiicoaaGreatDoorTRefL
import Derived.Test.YtbffmobjiiicoaaGreatDoorJV3
set_option linter.unusedVariables false
set_option linter.unusedSimpArgs false
namespace Go.Proofs.YtbffmobjiiicoaaGreatDoor
open Go.RowKit Go.Shelf
theorem rat_no (x : Ta) (t : Int) (w : World) (hA : TarAt w.heap.size w x) (hx : TarIs x) (h : ¬ OffT x t) :
    Calls Tryz.prog 10 #[zoneV x.off x.za x.zl x.zc, calVx x, tabVx x, .slice x.va x.l.length x.vc, .int .i64 t] w fun e w' => e = .returned (.tuple #[.int .i64 0, .int .i64 0, .int .i64 60]) ∧ Below w.heap.size w w' := by
  obtain ⟨n3, hb0⟩ := Box3.new w x
  have H1 := Lib.hid (rlocal_no x t _ (hA.up hb0) hx h)
  have HB := Lib.hid hb0
  obtain ⟨z0, z1, c0, c1, b0, b1, sz⟩ := n3
  clear hA hx h hb0
  go_enter Tryz.func10, Tryz.ntmps10
  go_wp2_with fail
  refine H1.out.mono ?_
  rintro e w1 ⟨rfl, hB⟩
  go_wp2
  go_ret3
  exact ⟨rfl, HB.out.trans (hB.mono HB.out.size)⟩
set_option maxRecDepth 20000 in
set_option maxHeartbeats 4000000 in
/-- The document's At, of a tariff that may be, at an instant that has a local time. -/
theorem rat_ok (x : Ta) (t : Int) (w : World) (hA : TarAt w.heap.size w x) (hL : TarLen x) (hS : Small2 x) (hx : TarIs x) (h : OffT x t) :
    Calls Tryz.prog 10 #[zoneV x.off x.za x.zl x.zc, calVx x, tabVx x, .slice x.va x.l.length x.vc, .int .i64 t] w fun e w' => (∃ s k mi b, BandIs x t s k mi b ∧
      ((∃ p, V10.priceO x.l t b = some p ∧ e = .returned (.tuple #[.int .i64 b, .int .i64 p, .int .i64 0])) ∨ (V10.priceO x.l t b = none ∧ e = .returned (.tuple #[.int .i64 0, .int .i64 0, .int .i64 110])))) ∧ Below w.heap.size w w' := by
  obtain ⟨n3, hb0⟩ := Box3.new w x
  have H1 := Lib.hid (rlocal_yes x t _ (hA.up hb0) hx h)
  have H2 := Lib.hid (fun W (hW : Below w.heap.size w W) => B9.table_any x.pa x.pl x.pc x.ra x.rl x.rc x.P x.Q W (hA.up hW).p (hA.up hW).q hS.1.2.2.2.1 hS.2.1 hS.1.2.2.2.2.1)
  have H3 := Lib.hid (fun W (hW : Below w.heap.size w W) => V10.rAt_any x.va x.l.length x.vc x.l rfl t W (hA.up hW).v hL.v (V10.tab_pair _ _ rfl hx.2.2.2.1))
  have HV := Lib.hid (fun W (hW : Below w.heap.size w W) => (hA.up hW).v)
  have HPL := Lib.hid (show x.pl ≤ maxLen ∧ x.rl ≤ maxLen from ⟨hL.p, hL.q⟩)
  have HN := Lib.hid (show x.l.length ≤ 210 from hS.1.2.2.2.2.2)
  have HTX := Lib.hid hx
  have HB0 := Lib.hid hb0
  have HX0 := Lib.hid n3
  clear hA hL hS hx h hb0 n3
  go_enter Tryz.func10, Tryz.ntmps10
  obtain ⟨z0, z1, c0, c1, b0, b1, sz⟩ := HX0.out
  go_wp2_with fail
  refine H1.out.mono ?_
  rintro e w1 ⟨⟨s, k, mi, hloc, rfl⟩, hB⟩
  have HLOC := Lib.hid hloc
  have HX1 := Lib.hid (HX0.out.next hB)
  have HB1 := Lib.hid (HB0.out.trans (hB.mono HB0.out.size))
  clear hB hloc z0 z1 c0 c1 b0 b1 sz
  obtain ⟨z0, z1, c0, c1, b0, b1, sz⟩ := HX1.out
  go_wp2_with fail
  refine (H2.out _ HB1.out).mono ?_
  rintro e w2 ⟨⟨pa', pc', ra', rc', P', rfl, hP', hR', heq⟩, hB⟩
  have HB2 := Lib.hid (HB1.out.trans (hB.mono HB1.out.size))
  obtain ⟨Wf, hWf⟩ : ∃ Wf, Wf = w2.alloc (.cells #[.slice pa' x.pl pc', .slice ra' x.rl rc'] 65) := ⟨_, rfl⟩
  have hz4 : Wf.heap[w2.heap.size]? = some (.cells #[.slice pa' x.pl pc', .slice ra' x.rl rc'] 65 (0, 0)) := by rw [hWf]; exact heap_alloc_new w2 _
  have hbf : Below w2.heap.size w2 Wf := by rw [hWf]; exact (Below.refl _ w2).alloc (Nat.le_refl _) _
  have HZ4 := Lib.hid hz4
  have HWF := Lib.hid hWf
  have HPR := Lib.hid (show B9.PlsAt Wf.heap.size Wf pa' x.pl P' ∧ B9.RusAt Wf.heap.size Wf ra' x.rl x.Q from ⟨(hP'.next hbf (Nat.le_refl _) (Nat.le_refl _)).mono hbf.size, (hR'.next hbf (Nat.le_refl _) (Nat.le_refl _)).mono hbf.size⟩)
  have HEQ := Lib.hid heq
  have HT' := Lib.hid (show B9.TabIs P' x.pl x.Q x.rl from of_decide_eq_true ((tabIs_copy heq).trans (decide_eq_true HTX.out.2.2.1)))
  have HBF := Lib.hid (HB2.out.trans (hbf.mono HB2.out.size))
  clear z0 z1 c0 c1 b0 b1 sz hB hP' hR' heq hz4 hbf hWf
  go_wp2_with fail
  rw [← HWF.out]
  refine (B9.rPlanT_yes pa' x.pl pc' ra' x.rl rc' P' x.Q s k ⟨HT'.out, (HLOC.out.bounds HTX.out).1, (HLOC.out.bounds HTX.out).2.1⟩ Wf HPR.out.1 HPR.out.2 HPL.out.1 HPL.out.2).mono ?_
  rintro e w3 ⟨⟨p, hp, rfl⟩, hB⟩
  have hpb : 0 ≤ p ∧ p < x.pl := by
    have ht := HTX.out.2.2.1
    rcases hp with ⟨i, hi, _, rfl, _⟩ | ⟨rfl, _⟩
    · have := ht.2.2.2.2 i hi
      exact ⟨this.2.2.1, this.2.2.2⟩
    · have := ht.1
      omega
  obtain ⟨p, rfl⟩ := Int.eq_ofNat_of_zero_le hpb.1
  have hpl : p < x.pl := by omega
  have hzr := (hB.block w2.heap.size (Array.getElem?_eq_some_iff.1 HZ4.out).1).trans HZ4.out
  have r0 : w3.cell? ⟨w2.heap.size, 0, none⟩ = some (.slice pa' x.pl pc') := cell_of_row _ _ 0 _ _ _ hzr
  have HB3 := Lib.hid (HBF.out.trans (hB.mono HBF.out.size))
  obtain ⟨ab, ao, hae, hab, d0, hdl, hdA⟩ := ((HPR.out.1.next hB (Nat.le_refl _) (Nat.le_refl _)).mono hB.size) p hpl
  have i1 : (p : Int) < x.pl := by omega
  have HP := Lib.hid hp
  have HPX := Lib.hid hpl
  have HBD := Lib.hid (B9.rBandP_yes (P' p).a (P' p).len (P' p).cap (P' p).L mi (HT'.out.2.2.2.1 p hpl) (HLOC.out.bounds HTX.out).2.2 w3 hdA)
  rw [(HEQ.out p).1, (HEQ.out p).2] at HBD
  rw [(HEQ.out p).1] at d0
  rw [hae] at r0
  clear hp hpb hpl hab hdl hdA hB hzr hae
  go_wp2_with fail
  refine HBD.out.mono ?_
  rintro e w4 ⟨rfl, hB⟩
  have HBI := Lib.hid (show BandIs x t s k mi (B9.bandN (x.P p).L (x.P p).len mi) from ⟨HLOC.out, p, HPX.out, HP.out, rfl⟩)
  have HB4 := Lib.hid (HB3.out.trans (hB.mono HB3.out.size))
  have HBR := Lib.hid (HBI.out.range HTX.out)
  generalize B9.bandN (x.P p).L (x.P p).len mi = b at *
  clear hB r0 d0 i1 HBD
  go_wp2_with fail
  refine (H3.out _ HB4.out).mono ?_
  rintro e w5 ⟨rfl, hB⟩
  have HB5 := Lib.hid (HB4.out.trans (hB.mono HB4.out.size))
  clear hB
  by_cases hc : V10.cnt x.l t = 0
  · have hpr : V10.priceO x.l t b = none := V10.price_none (by unfold V10.verO; rw [if_neg (fun q => by have := q.2; omega)])
    have HPRC := Lib.hid hpr
    rw [hc]
    clear hc hpr
    go_wp2
    go_ret3
    exact ⟨⟨s, k, mi, b, HBI.out, .inr ⟨HPRC.out, rfl⟩⟩, HB5.out⟩
  · obtain ⟨c, hcc⟩ : ∃ c : Nat, V10.cnt x.l t = c + 1 := ⟨V10.cnt x.l t - 1, by omega⟩
    have hcl := V10.cnt_le x.l t
    rw [hcc] at hcl
    have hlt : c < x.l.length := by omega
    obtain ⟨v, hv⟩ : ∃ v, x.l[c]? = some v := ⟨_, List.getElem?_eq_getElem hlt⟩
    have hps : v.ps.length = 8 := HTX.out.2.2.2.2.2 v (List.mem_of_getElem? hv)
    obtain ⟨b, rfl⟩ := Int.eq_ofNat_of_zero_le HBR.out.1
    have hb8 : b < 8 := by have := HBR.out.2; omega
    obtain ⟨pr, hpr⟩ : ∃ pr, v.ps[b]? = some pr := ⟨_, List.getElem?_eq_getElem (by omega)⟩
    have hprice : V10.priceO x.l t b = some pr := by
      have hvo : V10.verO x.l t = some v := by
        unfold V10.verO
        rw [if_pos ⟨HTX.out.2.2.2.1, by omega⟩, hcc]
        exact hv
      rw [V10.price_ver hvo, if_pos (by omega), Int.toNat_natCast]
      exact hpr
    have HPRC := Lib.hid hprice
    obtain ⟨vb, vo, va', vc', hae, hab, d0, d1, hdl, hdp⟩ := HV.out _ HB5.out c v hv
    obtain ⟨qb, qo, hqe, hqb, q0⟩ := hdp b pr hpr
    rw [hps, hqe] at d1
    rw [hae]
    rw [show ((V10.cnt x.l t : Nat) : Int) - 1 = ((c : Nat) : Int) by rw [hcc]; omega]
    have i1 : (c : Int) < x.l.length := by omega
    have i2 : (b : Int) < 8 := by omega
    have i3 : ¬ ((c : Int) < 0) := by omega
    have hmx : Tryz.prog.follows .mixedOrders = true := by kernel_rfl
    clear hc hcc hcl hlt hv hps hb8 hpr hprice hab hdl hdp hqe hqb hae d0
    go_wp2_with fail
    have s1 : w5.drew.cell? ⟨vb, vo + c * 2 + 1, none⟩ = some (.slice (some ⟨qb, qo, none⟩) 8 vc') ∧ w5.drew.cell? ⟨qb, qo + b, none⟩ = some (.int .i64 pr) := ⟨d1, q0⟩
    go_region_held3 (fun w' => w'.cell? ⟨vb, vo + c * 2 + 1, none⟩ = some (.slice (some ⟨qb, qo, none⟩) 8 vc') ∧ w'.cell? ⟨qb, qo + b, none⟩ = some (.int .i64 pr))
      (first | (with_reducible exact s1) | go_keep)
      (first | fail)
    all_goals
      go_wp2
      go_ret3
      exact ⟨⟨s, k, mi, b, HBI.out, .inl ⟨pr, HPRC.out, rfl⟩⟩, HB5.out.drew⟩
end Go.Proofs.YtbffmobjiiicoaaGreatDoor
