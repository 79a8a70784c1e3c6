/- Contract of the program's Instants: the list. -/
import Derived.Test.YtobnlcmamnoefaaDoorYInst
set_option linter.unusedVariables false
set_option linter.unusedSimpArgs false
namespace Go.Proofs.YtobnlcmamnoefaaDoor
open Go.RowKit Go.Shelf
attribute [local go_sem] Oper.semAt_some
/-- The answer: a row of the call's own with just these numbers. -/
def Insts (L : List Int) (w : World) (e : Ending) (w' : World) : Prop := ∃ a c, e = .returned (.tuple #[.slice a L.length c, .int .i64 0]) ∧ OwnI w.heap.size w' (.slice a L.length c) L ∧ Below w.heap.size w w'
theorem sec_bounds {y m d h mi s : Int} (hm : MomIs y m d h mi s) : 0 ≤ secOf y m d h mi s ∧ secOf y m d h mi s < 253402300800 := by
  have := day_bounds hm.1
  obtain ⟨_, ⟨h1, h2⟩, ⟨h3, h4⟩, h5, h6⟩ := hm
  unfold secOf
  omega
/-- What lies between two rounds. -/
def InI (n0 b6 : Nat) (off : Int) (a : Option Addr) (len cap : Nat) (R : Nat → Rl) (loc : Int) (pre : List Ext) (W : World) : Prop :=
  W.heap[n0]? = some (.cells #[.int .i64 off, .slice a len cap] 24 (0, 0)) ∧ Boxed W b6 2 (.int .i64 loc) ∧ HoldsI (b6 + 1) (b6 + 1) (colX off R len loc (pre.map Subtype.val)) W
theorem InI.own (n0 b6 : Nat) (off : Int) (a : Option Addr) (len cap : Nat) (R : Nat → Rl) (loc : Int) : Own (fun pre W => InI n0 b6 off a len cap R loc pre W) := by
  intro s A B row h hg hr
  exact ⟨cells_kept h.1 hg hr, cells_kept h.2.1 hg hr, holdsI_own (b6 + 1) (b6 + 1) (fun pre : List Ext => colX off R len loc (pre.map Subtype.val)) s A B row h.2.2 hg hr⟩
theorem kx_app {W w1 : World} {base n m : Nat} {v : Value} {xs : List Value} (hO : W.ownsRow base 2 m v n xs) (hG : W.grownBy w1 v.ownBlock) : KX W w1 := by
  intro g cs fr e
  refine (hG.block g (Array.getElem?_eq_some_iff.1 e).1 (fun q => ?_)).trans e
  rcases hO.2 with ⟨rfl, _⟩ | ⟨g', cap, cur, rfl, _, hb, _⟩
  · simp [Value.ownBlock] at q
  · have : g = g' := by simpa [Value.ownBlock] using q
    subst this
    rw [hb] at e
    cases e
theorem kx_set {W : World} {b : Nat} {v v' : Value} (h : Boxed W b 52 v) : KX W (W.setCell ⟨b, 0, none⟩ v') := by
  intro g cs fr e
  refine (heap_setCell_other W ⟨b, 0, none⟩ g v' (fun q => ?_)).trans e
  have q' : g = b := by simpa using q
  subst q'
  have h' : W.heap[g]? = some (.cells #[v] 52 (0, 0)) := h
  rw [h'] at e
  cases e
theorem InI.below {n0 b6 : Nat} {off : Int} {a : Option Addr} {len cap : Nat} {R : Nat → Rl} {loc : Int} {pre : List Ext} {W V : World} (h : InI n0 b6 off a len cap R loc pre W) (hB : Below W.heap.size W V) : InI n0 b6 off a len cap R loc pre V := by
  obtain ⟨h1, h2, v, h3, h4⟩ := h
  exact ⟨(hB.block _ (Array.getElem?_eq_some_iff.1 h1).1).trans h1, (hB.block _ (Array.getElem?_eq_some_iff.1 h2).1).trans h2, v, (hB.block _ (Array.getElem?_eq_some_iff.1 h3).1).trans h3, h4.below hB (Nat.le_refl _)⟩
set_option maxRecDepth 100000 in
set_option maxHeartbeats 2000000 in
theorem instants_yes (off : Int) (a : Option Addr) (len cap : Nat) (R : Nat → Rl) (y m d h mi s : Int) (w : World) (hR : RulesAt w.heap.size w a len R) (hz : ZoneIs off R len) (hT : Tabs w) (hm : MomIs y m d h mi s) :
    Calls Tryd.prog 20 #[zoneV off a len cap, momV y m d h mi s] w (Insts (insts off R len (secOf y m d h mi s)) w) := by
  have hl : len ≤ 1000 := by have := hz.2.1; omega
  have hlb := sec_bounds hm
  have hb0 := (Below.refl _ w).alloc (Nat.le_refl _) (.cells #[.int .i64 off, .slice a len cap] 24)
  have hb1 := hb0.alloc hb0.size (.cells #[.int .i64 y, .int .i64 m, .int .i64 d, .int .i64 h, .int .i64 mi, .int .i64 s] 44)
  have hg := heap_alloc_new (w.alloc (.cells #[.int .i64 off, .slice a len cap] 24)) (.cells #[.int .i64 y, .int .i64 m, .int .i64 d, .int .i64 h, .int .i64 mi, .int .i64 s] 44)
  have hgz := heap_old (heap_alloc_new w (.cells #[.int .i64 off, .slice a len cap] 24)) (.cells #[.int .i64 y, .int .i64 m, .int .i64 d, .int .i64 h, .int .i64 mi, .int .i64 s] 44)
  rw [World.size_alloc] at hg
  have H1 := Lib.hid (checkZ_any off a len cap R _ hl ((hR.next hb1).mono hb1.size))
  rw [zE_yes hz] at H1
  have H2 := Lib.hid (fun X (hX : Below w.heap.size w X) => instant_any y m d h mi s X (hT.next hX))
  rw [show instV y m d h mi s = secOf y m d h mi s from if_pos hm, show momE y m d h mi s = 0 from if_pos hm] at H2
  obtain ⟨loc, hloc⟩ : ∃ loc, loc = secOf y m d h mi s := ⟨_, rfl⟩
  rw [← hloc] at H2 hlb ⊢
  have HB := Lib.hid hb1
  have HG := Lib.hid hg
  have HGZ := Lib.hid hgz
  have HR := Lib.hid hR
  have HT := Lib.hid hT
  have HZ := Lib.hid hz
  clear hb0 hb1 hR hl hm hT hg hgz hloc
  refine (callsIn_wide (n := 4)).1 ?_
  refine callsIn_of_wp_marks Tryd.func20 rfl trivial ?_ rfl
  simp only [Tryd.ntmps20, List.size_toArray, List.length_cons, List.length_nil, Nat.reduceAdd, Nat.reduceSub, Array.replicate_succ, Array.replicate_zero, List.push_toArray, List.append_toArray, List.nil_append, List.cons_append]
  gi_wp2
  refine wpIn_scope_straight (wpIn_seq ?_)
  gi_wp2_with (refine ⟨trivial, ?_⟩; gi_at_call 10; refine (callsIn_wide.2 H1.out).mono ?_; rintro e X ⟨rfl, hB1⟩; refine Hid.out ?_)
  refine Lib.hid ?_
  have hb := HB.out.trans (hB1.mono HB.out.size)
  have hg := (hB1.block (w.heap.size + 1) (Array.getElem?_eq_some_iff.1 HG.out).1).trans HG.out
  have hgz := (hB1.block w.heap.size (Array.getElem?_eq_some_iff.1 HGZ.out).1).trans HGZ.out
  have a0 : X.cell? ⟨w.heap.size + 1, 0, none⟩ = some (.int .i64 y) := cell_of_row X _ 0 _ _ _ hg
  have a1 : X.cell? ⟨w.heap.size + 1, 1, none⟩ = some (.int .i64 m) := cell_of_row X _ 1 _ _ _ hg
  have a2 : X.cell? ⟨w.heap.size + 1, 2, none⟩ = some (.int .i64 d) := cell_of_row X _ 2 _ _ _ hg
  have a3 : X.cell? ⟨w.heap.size + 1, 3, none⟩ = some (.int .i64 h) := cell_of_row X _ 3 _ _ _ hg
  have a4 : X.cell? ⟨w.heap.size + 1, 4, none⟩ = some (.int .i64 mi) := cell_of_row X _ 4 _ _ _ hg
  have a5 : X.cell? ⟨w.heap.size + 1, 5, none⟩ = some (.int .i64 s) := cell_of_row X _ 5 _ _ _ hg
  have HBX := Lib.hid hb
  have HGX := Lib.hid hgz
  clear hB1 hb hg HB HG H1 HGZ hgz
  gi_wp2_with (refine ⟨trivial, ?_⟩; gi_at_call 28; refine (callsIn_wide.2 (H2.out _ HBX.out)).mono ?_; rintro e Y ⟨rfl, hB2⟩; refine Hid.out ?_)
  refine Lib.hid ?_
  have hby := HBX.out.trans (hB2.mono HBX.out.size)
  have hgy := (hB2.block w.heap.size (Array.getElem?_eq_some_iff.1 HGX.out).1).trans HGX.out
  have HBY := Lib.hid hby
  have HGY := Lib.hid hgy
  clear hB2 HBX H2 a0 a1 a2 a3 a4 a5 hby hgy HGX
  gi_wp2
  obtain ⟨X, hX⟩ : ∃ X, ((Y.alloc (.cells #[.int .i64 loc] 2)).alloc (.cells #[.slice none 0 0] 52)) = X := ⟨_, rfl⟩
  have d1 : X.heap[w.heap.size]? = some (.cells #[.int .i64 off, .slice a len cap] 24 (0, 0)) := by
    rw [← hX]; exact heap_old (heap_old HGY.out _) _
  have d2 : Boxed X Y.heap.size 2 (.int .i64 loc) := by
    rw [← hX]; exact (Boxed.new Y 2 (.int .i64 loc)).alloc _
  have d3 : Boxed X (Y.heap.size + 1) 52 (.slice none 0 0) := by
    have := Boxed.new (Y.alloc (.cells #[.int .i64 loc] 2)) 52 (.slice none 0 0)
    rw [World.size_alloc] at this
    rw [← hX]; exact this
  have d4 : Below w.heap.size w X := by rw [← hX]; exact (HBY.out.alloc HBY.out.size _).alloc (by simp; have := HBY.out.size; omega) _
  have d5 : X.heap.size = Y.heap.size + 2 := by rw [← hX]; simp
  have d6 : w.heap.size < Y.heap.size := (Array.getElem?_eq_some_iff.1 HGY.out).1
  rw [hX]
  have z0 : X.cell? ⟨w.heap.size, 0, none⟩ = some (.int .i64 off) := cell_of_row X _ 0 _ _ _ d1
  have z1 : X.cell? ⟨w.heap.size, 1, none⟩ = some (.slice a len cap) := cell_of_row X _ 1 _ _ _ d1
  have HI := Lib.hid (show InI w.heap.size Y.heap.size off a len cap R loc [] X from ⟨d1, d2, _, d3, OwnI.nil _ _⟩)
  have HB := Lib.hid d4
  have H5 := Lib.hid d5
  clear d1 d2 d3 d4 d5 hX HGY HBY
  refine wpIn_label ?_
  gi_wp2_with (refine ⟨trivial, ?_⟩; gi_at_call 40; refine (extrasOf_in _ _ _ _ _ _).mono ?_; rintro e w' ⟨rfl, rfl⟩)
  obtain ⟨B2, hB2⟩ : ∃ B2, B2 = X.heap.size := ⟨_, rfl⟩
  have hz2 := heap_alloc_new X (.cells #[.int .i64 off, .slice a len cap] 24)
  rw [← hB2] at hz2 ⊢
  obtain ⟨X2, hX2⟩ : ∃ X2, X.alloc (.cells #[.int .i64 off, .slice a len cap] 24) = X2 := ⟨_, rfl⟩
  have hs2 : X2.heap.size = B2 + 1 := by rw [← hX2, World.size_alloc, hB2]
  have hI2 : InI w.heap.size Y.heap.size off a len cap R loc [] X2 := by rw [← hX2]; exact InI.own _ _ _ _ _ _ _ _ _ _ _ none HI.out (World.grownBy_alloc X _ none) (fun r e => by cases e)
  have hBx2 : Below w.heap.size w X2 := by rw [← hX2]; exact HB.out.alloc HB.out.size _
  have hT2 : Tabs X2 := HT.out.next hBx2
  have hR2 : RulesAt X2.heap.size X2 a len R := (HR.out.next hBx2).mono hBx2.size
  have hbl : Y.heap.size + 2 = B2 := by rw [hB2, H5.out]
  rw [hX2] at hz2 ⊢
  clear HI HB z0 z1 hX2 hB2 H5
  refine wpIn_rangeFunc_ownG rfl (by omega) (gf := 53) (lb := #[.pointer (some ⟨B2, 0, none⟩)]) rfl trivial (enters_of Tryd.func53 (by kernel_rfl) rfl)
    (extras_stops (4 - 1) (by omega) B2 off a len cap R HZ.out X2 hz2 hR2) KX.trans (kxB _) (Below.refl _ _) (fun _ => rfl)
    (fun pre W => InI w.heap.size Y.heap.size off a len cap R loc pre W ∧ Below w.heap.size w W)
    (fun c pre W => (∃ q x, pre = q ++ [x] ∧ loc - x.1 < 0 ∧ InI w.heap.size Y.heap.size off a len cap R loc q W ∧ c = .exit 0) ∧ Below w.heap.size w W)
    (OwnFrom.and (Own.from (InI.own _ _ _ _ _ _ _ _) _) (ownFrom_below (Nat.le_refl _) (by omega)))
    (fun c => OwnFrom.and (Own.from (fun s A B row hs hg hr => let ⟨q, x, e1, e2, h, e3⟩ := hs; ⟨q, x, e1, e2, InI.own _ _ _ _ _ _ _ _ q A B row h hg hr, e3⟩) _) (ownFrom_below (Nat.le_refl _) (by omega)))
    ⟨hI2, hBx2⟩
    (fun x => { tmps := #[zoneV off a len cap, momV y m d h mi s, .pointer (some ⟨w.heap.size, 0, none⟩), .pointer (some ⟨w.heap.size + 1, 0, none⟩), .slice none 0 0, .int .i64 0, .pointer (some ⟨Y.heap.size, 0, none⟩), .int .i64 0, .pointer (some ⟨Y.heap.size + 1, 0, none⟩), .int .i64 x.1, undef, undef, undef, .agg #[.int .i64 off, .slice a len cap], .int .i64 0, .bool false, .tuple #[.int .i64 loc, .int .i64 0], .agg #[.int .i64 y, .int .i64 m, .int .i64 d, .int .i64 h, .int .i64 mi, .int .i64 s], .tuple #[.int .i64 loc, .int .i64 0], .int .i64 loc, .int .i64 0, .int .i64 0, .bool false, .agg #[.int .i64 off, .slice a len cap], .func (.func 53) #[] #[.pointer (some ⟨B2, 0, none⟩)], .int .i64 x.1, undef, undef, undef, undef, undef, undef, undef, undef, undef, undef, undef, undef, undef, undef, undef, undef, undef, undef, undef, undef, undef, undef, undef, undef, undef, undef, undef, undef], defers := [] }) ?assign ?body ?done ?stop
  case assign =>
    intro l x W K hK
    unfold encX
    gi_wp2
    exact hK
  case body =>
    rintro l pre x W ⟨hI, hB⟩ hlt
    have hx := x.2
    have hc6 := hI.2.1.cell
    have HI := Lib.hid hI
    have HB := Lib.hid hB
    clear hI hB hT2 hR2 hBx2 hI2 hz2
    by_cases h0 : loc - x.1 < 0
    · have HA := Lib.hid (at_no (loc - x.1) (by omega) W)
      gi_wp2_with (refine ⟨trivial, ?_⟩; gi_at_call 29; refine (CallsIn.inRound l (callsIn_wide.2 HA.out)).mono ?_; rintro e V ⟨rfl, hBV⟩; refine Hid.out ?_)
      refine Lib.hid ?_
      have HV := Lib.hid hBV
      clear hBV
      gi_wp2
      have hb2 := HV.out.alloc HV.out.size (.cells #[.int .i64 0, .int .i64 0, .int .i64 0, .int .i64 0, .int .i64 0, .int .i64 0] 44)
      exact ⟨(othersI_of_below hb2).from _, ⟨pre, x, rfl, h0, HI.out.below hb2, rfl⟩, HB.out.trans (hb2.mono HB.out.size)⟩
    · obtain ⟨yy, mm, dd, hd⟩ := date_exists ((loc - x.1) / 86400) (by omega) (by omega)
      have HA := Lib.hid (at_yes (loc - x.1) (by omega) (by omega) yy mm dd hd W (HT.out.next HB.out))
      have HE := Lib.hid (fun V (hV : Below w.heap.size w V) => extraAt_any off a len cap R yy (loc - x.1) V ((HR.out.next hV).mono hV.size) HZ.out (HT.out.next hV))
      have hxb := xOf_bounds HZ.out yy (loc - x.1)
      have HYI := Lib.hid (yearI_is hd)
      obtain ⟨E, hE⟩ : ∃ E, E = xOf R len yy (loc - x.1) := ⟨_, rfl⟩
      rw [← hE] at HE hxb
      have HEE := Lib.hid hE
      clear hd hE
      gi_wp2_with (refine ⟨trivial, ?_⟩; gi_at_call 29; refine (CallsIn.inRound l (callsIn_wide.2 HA.out)).mono ?_; rintro e V ⟨rfl, hBV⟩; refine Hid.out ?_)
      refine Lib.hid ?_
      obtain ⟨sm, hsm⟩ : ∃ o : Obj, o = .cells #[.int .i64 yy, .int .i64 mm, .int .i64 dd, .int .i64 ((loc - x.1) % 86400 / 3600), .int .i64 ((loc - x.1) % 3600 / 60), .int .i64 ((loc - x.1) % 60)] 44 := ⟨_, rfl⟩
      have hb2 := hBV.alloc hBV.size sm
      have hi2 := HI.out.below hb2
      have hbv := HB.out.trans (hb2.mono HB.out.size)
      have hiv := HI.out.below hBV
      have z0 : V.cell? ⟨w.heap.size, 0, none⟩ = some (.int .i64 off) := cell_of_row V _ 0 _ _ _ hiv.1
      have z1 : V.cell? ⟨w.heap.size, 1, none⟩ = some (.slice a len cap) := cell_of_row V _ 1 _ _ _ hiv.1
      have hzl : w.heap.size < V.heap.size := (Array.getElem?_eq_some_iff.1 hiv.1).1
      rw [hsm] at hb2 hi2 hbv
      have HV2 := Lib.hid hb2
      have HI2 := Lib.hid hi2
      have HB2 := Lib.hid hbv
      clear hBV hb2 hi2 hbv hiv hsm HA
      gi_wp2_with (refine ⟨trivial, ?_⟩; gi_at_call 41; refine (CallsIn.inRound l (callsIn_wide.2 (HE.out _ HB2.out))).mono ?_; rintro e U ⟨rfl, hBU⟩; refine Hid.out ?_)
      refine Lib.hid ?_
      have hb2 := HV2.out.trans (hBU.mono HV2.out.size)
      have hi2 := HI2.out.below hBU
      have hbw := HB2.out.trans (hBU.mono HB2.out.size)
      have HU := Lib.hid hb2
      have HIU := Lib.hid hi2
      have HBU := Lib.hid hbw
      clear hBU HV2 HI2 HB2 hb2 hbw z0 z1 hzl
      by_cases hh : E = x.1
      · have hhit : hitX R len loc x.1 := ⟨by omega, by rw [HYI.out, ← HEE.out]; exact hh⟩
        subst hh
        obtain ⟨h1, h2, v, h3, hO⟩ := hi2
        obtain ⟨a', c', rfl⟩ := hO.form
        have z0 : U.cell? ⟨w.heap.size, 0, none⟩ = some (.int .i64 off) := cell_of_row U _ 0 _ _ _ h1
        have hvc := h3.cell
        have hvf := h3.frozen
        have hob := HZ.out.1
        obtain ⟨o1, o2⟩ := hob
        have hll : (colX off R len loc (pre.map Subtype.val)).length ≤ pre.length := Nat.le_trans (colX_le _) (by simp)
        have hly := colX_yes (off := off) (xs := pre.map Subtype.val) hhit
        obtain ⟨L, hL⟩ : ∃ L, L = colX off R len loc (pre.map Subtype.val) := ⟨_, rfl⟩
        rw [← hL] at hO hvc h3 hll hly
        have HLY := Lib.hid hly
        have hnl : pre.length < 22 := by rw [extL_len] at hlt; have := extsE_len R len; have := HZ.out.2.1; omega
        have hub : Y.heap.size + 1 < U.heap.size := (Array.getElem?_eq_some_iff.1 h3).1
        have hbo := bysI_alloc (T := 2) U [loc - x.1 - off] (by intro y hy; simp at hy; subst hy; omega) #[.int .i64 (loc - x.1 - off)] rfl 1 1 rfl (0, 0)
        have hOa : OwnI (Y.heap.size + 1) (U.alloc (.cells #[.int .i64 (loc - x.1 - off)] 2)) (.slice a' L.length c') L := hO.below ((Below.refl _ _).alloc (Nat.le_refl _) _) (Nat.le_refl _)
        have H1 := Lib.hid h1
        have H2 := Lib.hid h2
        have H3 := Lib.hid h3
        clear h1 h2 hL hly hhit
        gi_wp2_with (first
          | (gi_at_builtin; refine wpListIn_bappI rfl (.tmp 44) (.tmp 49) rfl (Y.heap.size + 1) _ L rfl hOa _ (some ⟨U.heap.size, 0, none⟩) 1 1 [loc - x.1 - off] rfl hbo (by simp; omega) (by simp; omega) ?_; intro a2 c2 W2 hO2' hG2
             obtain ⟨hk1, hk2, hk3, hk4, hk5⟩ := h3.appended (by decide) hO.2 (by omega) (Nat.le_refl _) hO2'.2 hG2
             have sc := hk1.cell
             have sf := hk1.frozen))
        have e2 : L.length + 1 = (L ++ [loc - x.1 - off]).length := by simp
        have hf2 : OwnI (Y.heap.size + 1) (W2.setCell ⟨Y.heap.size + 1, 0, none⟩ (.slice a2 (L ++ [loc - x.1 - off]).length c2)) (.slice a2 (L ++ [loc - x.1 - off]).length c2) (L ++ [loc - x.1 - off]) := ⟨hO2'.1, hk3⟩
        have hkx : KX W (W2.setCell ⟨Y.heap.size + 1, 0, none⟩ (.slice a2 (L ++ [loc - x.1 - off]).length c2)) :=
          ((KX.of HU.out).trans ((KX.of ((Below.refl _ _).alloc (Nat.le_refl _) _)).trans (kx_app hOa.2 hG2))).trans (kx_set hk1)
        rw [e2]
        refine ⟨((othersI_of_below HU.out).trans hk4).from _, hkx, ⟨?_, ?_, _, hk2, ?_⟩, HBU.out.trans (hk5.mono (by omega))⟩
        · exact (hk5.block _ (by omega)).trans H1.out
        · exact (hk5.block _ (by omega)).trans H2.out
        · rw [List.map_append, List.map_cons, List.map_nil, HLY.out]
          exact hf2
      · have hmiss : ¬ hitX R len loc x.1 := fun q => hh (by have := q.2; rw [HYI.out, ← HEE.out] at this; exact this)
        have hly := colX_no (off := off) (xs := pre.map Subtype.val) hmiss
        have HLY := Lib.hid hly
        clear hly hmiss hi2
        gi_wp2
        obtain ⟨h1, h2, v, h3, hO⟩ := HIU.out
        exact ⟨(othersI_of_below HU.out).from _, KX.of HU.out, ⟨h1, h2, v, h3, by rw [List.map_append, List.map_cons, List.map_nil, HLY.out]; exact hO⟩, HBU.out⟩
  case done =>
    rintro D ys W hD rfl ⟨hI, hB⟩ hK
    have hmm : colX off R len loc ((extL HZ.out).map Subtype.val) = colX off R len loc (extsE R len) := by rw [extL_map]
    obtain ⟨h1, h2, v, h3, hO⟩ := hI
    rw [hmm] at hO
    obtain ⟨a', c', rfl⟩ := hO.form
    have hll : (colX off R len loc (extsE R len)).length ≤ 22 := by
      have e1 := colX_le (off := off) (R := R) (len := len) (loc := loc) (extsE R len)
      have e2 := extsE_len R len
      have e3 := HZ.out.2.1
      omega
    have hins : insts off R len loc = (colX off R len loc (extsE R len)).reverse := rfl
    clear hmm
    obtain ⟨L, hL⟩ : ∃ L, L = colX off R len loc (extsE R len) := ⟨_, rfl⟩
    rw [← hL] at hO h3 hll hins
    have HLI := Lib.hid hins
    clear hL hins
    have hvc := h3.cell
    have hvf := h3.frozen
    have hbs := hB.size
    have hub : Y.heap.size + 1 < W.heap.size := (Array.getElem?_eq_some_iff.1 h3).1
    obtain ⟨N, hN⟩ : ∃ N, N = L.length := ⟨_, rfl⟩
    rw [← hN] at hO h3 hvc
    have HRV := Lib.hid (reverse_own (Y.heap.size + 1) a' N c' L W hO hN (by omega) (by omega))
    have HB := Lib.hid hB
    have HK := Lib.hid hK
    have HO := Lib.hid hO
    have H3 := Lib.hid h3
    have HN := Lib.hid hN
    clear hB hK hI2 hBx2 hz2 h1 h2 hT2 hR2 hO h3 hN hll
    gi_wp2_with (refine ⟨trivial, ?_⟩; gi_at_call 42; refine (callsIn_wide.2 HRV.out).mono ?_; rintro e W3 ⟨rfl, hO3, hG3⟩; refine Hid.out ?_)
    refine Lib.hid ?_
    have hb3 := H3.out.kept hG3 (H3.out.not_row (by decide) HO.out.2)
    have hvc3 := hb3.cell
    have hk3 : W3.heap[D]? = some (.deferred (some [])) := (hG3.block D (Array.getElem?_eq_some_iff.1 HK.out).1 (fun q => by
      rcases HO.out.2.2 with ⟨e, _⟩ | ⟨g', cap, cur, e, _, hb, _⟩
      · cases e; simp [Value.ownBlock] at q
      · cases e
        have : D = g' := by simpa [Value.ownBlock] using q
        subst this
        have hk := HK.out
        rw [hb] at hk
        cases hk)).trans HK.out
    have hB3 : Below w.heap.size w W3 := HB.out.trans ((Below.refl w.heap.size W).grown hG3 HB.out.size (fun k hk => by
      have := HO.out.row k hk
      omega))
    have HK3 := Lib.hid hk3
    have HB3 := Lib.hid hB3
    have HO3 := Lib.hid hO3
    clear hk3 hB3 hO3 hG3 hb3 hvc hvf HRV
    gi_wp2
    rw [Exit.noGoto_ret]
    refine ⟨by simp, .inl ⟨_, _, rfl, run_takeDeferred HK3.out, ?_⟩⟩
    have hON : OwnI w.heap.size W3 (.slice a' L.reverse.length c') L.reverse := by
      rw [List.length_reverse, ← HN.out]; exact HO3.out.le (by omega)
    refine ⟨_, results_tmp2 rfl _ _ _, a', c', ?_, ?_, HB3.out.trans (belowK_b (w := w) (Nat.le_refl _) _ D _ _ (by omega) HK3.out rfl rfl)⟩
    · rw [HLI.out, List.length_reverse, ← HN.out]
      rfl
    · rw [HLI.out]
      exact ⟨hON.1, ownsRow_putObj hON.2 _ HK3.out rfl⟩
  case stop =>
    rintro D c pre W hD hpre ⟨⟨q, x, hq, hgt, hI, rfl⟩, hB⟩ hK
    have hmm : colX off R len loc (q.map Subtype.val) = colX off R len loc (extsE R len) := by
      obtain ⟨r, hr⟩ := hpre
      have e : q.map Subtype.val ++ [x.1] <+: extsE R len := ⟨r.map Subtype.val, by rw [← extL_map HZ.out, ← hr, hq]; simp⟩
      exact (colX_cut e hgt).symm
    clear hq hgt hpre
    obtain ⟨h1, h2, v, h3, hO⟩ := hI
    rw [hmm] at hO
    obtain ⟨a', c', rfl⟩ := hO.form
    have hll : (colX off R len loc (extsE R len)).length ≤ 22 := by
      have e1 := colX_le (off := off) (R := R) (len := len) (loc := loc) (extsE R len)
      have e2 := extsE_len R len
      have e3 := HZ.out.2.1
      omega
    have hins : insts off R len loc = (colX off R len loc (extsE R len)).reverse := rfl
    clear hmm
    obtain ⟨L, hL⟩ : ∃ L, L = colX off R len loc (extsE R len) := ⟨_, rfl⟩
    rw [← hL] at hO h3 hll hins
    have HLI := Lib.hid hins
    clear hL hins
    have hvc := h3.cell
    have hvf := h3.frozen
    have hbs := hB.size
    have hub : Y.heap.size + 1 < W.heap.size := (Array.getElem?_eq_some_iff.1 h3).1
    obtain ⟨N, hN⟩ : ∃ N, N = L.length := ⟨_, rfl⟩
    rw [← hN] at hO h3 hvc
    have HRV := Lib.hid (reverse_own (Y.heap.size + 1) a' N c' L W hO hN (by omega) (by omega))
    have HB := Lib.hid hB
    have HK := Lib.hid hK
    have HO := Lib.hid hO
    have H3 := Lib.hid h3
    have HN := Lib.hid hN
    clear hB hK hI2 hBx2 hz2 h1 h2 hT2 hR2 hO h3 hN hll
    gi_wp2_with (refine ⟨trivial, ?_⟩; gi_at_call 42; refine (callsIn_wide.2 HRV.out).mono ?_; rintro e W3 ⟨rfl, hO3, hG3⟩; refine Hid.out ?_)
    refine Lib.hid ?_
    have hb3 := H3.out.kept hG3 (H3.out.not_row (by decide) HO.out.2)
    have hvc3 := hb3.cell
    have hk3 : W3.heap[D]? = some (.deferred (some [])) := (hG3.block D (Array.getElem?_eq_some_iff.1 HK.out).1 (fun q => by
      rcases HO.out.2.2 with ⟨e, _⟩ | ⟨g', cap, cur, e, _, hb, _⟩
      · cases e; simp [Value.ownBlock] at q
      · cases e
        have : D = g' := by simpa [Value.ownBlock] using q
        subst this
        have hk := HK.out
        rw [hb] at hk
        cases hk)).trans HK.out
    have hB3 : Below w.heap.size w W3 := HB.out.trans ((Below.refl w.heap.size W).grown hG3 HB.out.size (fun k hk => by
      have := HO.out.row k hk
      omega))
    have HK3 := Lib.hid hk3
    have HB3 := Lib.hid hB3
    have HO3 := Lib.hid hO3
    clear hk3 hB3 hO3 hG3 hb3 hvc hvf HRV
    gi_wp2
    rw [Exit.noGoto_ret]
    refine ⟨by simp, .inl ⟨_, _, rfl, run_takeDeferred HK3.out, ?_⟩⟩
    have hON : OwnI w.heap.size W3 (.slice a' L.reverse.length c') L.reverse := by
      rw [List.length_reverse, ← HN.out]; exact HO3.out.le (by omega)
    refine ⟨_, results_tmp2 rfl _ _ _, a', c', ?_, ?_, HB3.out.trans (belowK_b (w := w) (Nat.le_refl _) _ D _ _ (by omega) HK3.out rfl rfl)⟩
    · rw [HLI.out, List.length_reverse, ← HN.out]
      rfl
    · rw [HLI.out]
      exact ⟨hON.1, ownsRow_putObj hON.2 _ HK3.out rfl⟩
end Go.Proofs.YtobnlcmamnoefaaDoor
