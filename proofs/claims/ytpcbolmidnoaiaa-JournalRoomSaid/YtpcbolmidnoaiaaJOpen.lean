/- Open of a device that holds a log. -/
import Derived.Test.YtpcbolmidnoaiaaJLogIs
import Derived.Test.YtpcbolmidnoaiaaRRegL
set_option linter.unusedVariables false
set_option linter.unusedSimpArgs false
namespace Go.Proofs.Ytpcbolmidnoaiaa
open Go.RowKit Go.Shelf
def jvOf (d : Dv) (pl num top : Nat) (recs : List (List Int)) : Jv := ⟨recs, [], pl, num, top, 0, d.safe.length⟩
def OpenE (w w' : World) (p : Pl) (J : Jv) (e : Ending) : Prop := ∃ j, e = .returned (.tuple #[ptr j.B, .int .i64 0]) ∧ JAt w' p.D j J ∧ (∀ k, jown j k → w.heap.size ≤ k) ∧ Below w.heap.size w w'
theorem store_pair_op {ops : Array Oper} {rest : List Oper} {o : Oper} {a : Act} {w : World} {Q : Exit → Act → World → Prop} {x y : Operand} {T : TypeId} {g : Nat} {L M : List Int} {cs : Array Value} (hg : At T w g cs) (hs : cs.size = 256) (hl : L.length = 128) (hm : M.length = 128)
    (hgd : o.guard = none) (ho : o.op = .store 58 x y) (hx : a.eval x = .pointer (some ⟨g, 0, none⟩)) (hy : a.eval y = .agg (vals8 L ++ vals8 M).toArray) (hk : wpList Try.prog ops Q rest (a.put o.dst undef) (w.setRow g (vals8 L ++ vals8 M).toArray)) : wpList Try.prog ops Q (o :: rest) a w :=
  wpList_store_row hgd 58 x y ho g (vals8 L ++ vals8 M).toArray hx hy _ _ hg (by rw [jpair_size hl hm]; simp) (by simp [vals8_len, hl, hm, hs]) (pair_all L M) hk
theorem pair_sec {T : TypeId} {w : World} {g : Nat} {L M : List Int} (h : At T w g (vals8 L ++ vals8 M).toArray) (hL : Sec L) (hM : Sec M) : SecIn w g (0 * 128) L ∧ SecIn w g (1 * 128) M := by
  refine ⟨⟨hL, fun i hi => ?_⟩, ⟨hM, fun i hi => ?_⟩⟩
  · rw [h.cell]
    simp only [List.getElem?_toArray]
    rw [List.getElem?_append_left (by rw [vals8_len, hL.1]; omega)]
    have := vals8_get L (0 * 128 + i) (by rw [hL.1]; omega)
    rwa [show 0 * 128 + i = i by omega] at this ⊢
  · rw [h.cell]
    simp only [List.getElem?_toArray]
    rw [List.getElem?_append_right (by rw [vals8_len, hL.1]; omega), vals8_len, hL.1, show 1 * 128 + i - 128 = i by omega]
    exact vals8_get M i (by rw [hM.1]; exact hi)
theorem open_end {w w3 w4 Z : World} {p : Pl} {d : Dv} {pl num top : Nat} {recs : List (List Int)} (hl : LogIs d pl num top recs) {ra a5 : Option Addr} {rc m5 c5 : Nat} (hrc : recs.length ≤ rc) (ho : OwnS w3 w4 (.slice ra recs.length rc) recs) (h4 : Below w3.heap.size w3 w4)
    (hw : w.heap.size ≤ w3.heap.size) (hB : Below w.heap.size w w3) (h5 : Own8 w4.heap.size Z (.slice a5 m5 c5) (partL recs)) (hZ : Below w4.heap.size w4 Z) :
    OpenE w (Z.alloc (.cells #[ptr p.D, .slice ra recs.length rc, .int .i64 (sizeN recs : Nat), .slice a5 m5 c5, .slice none 0 0, .int .i64 0, .int .i64 (pl : Nat), .int .u64 (num : Nat), .int .u64 (top : Nat), .int .i64 0] 72)) p (jvOf d pl num top recs) (.returned (.tuple #[ptr Z.heap.size, .int .i64 0])) := by
  obtain ⟨rs, hs, hm⟩ := ho
  have s4 := h4.size
  have s5 := hZ.size
  have bA : Below Z.heap.size Z (Z.alloc (.cells #[ptr p.D, .slice ra recs.length rc, .int .i64 (sizeN recs : Nat), .slice a5 m5 c5, .slice none 0 0, .int .i64 0, .int .i64 (pl : Nat), .int .u64 (num : Nat), .int .u64 (top : Nat), .int .i64 0] 72)) := (Below.refl _ _).alloc (Nat.le_refl _) _
  have hs2 := (hs.below hZ (Nat.le_refl _)).below bA (Nat.le_refl _)
  refine ⟨⟨Z.heap.size, .slice ra recs.length rc, .slice none 0 0, .slice a5 m5 c5, rs, []⟩, rfl, ⟨At.new _ Z _, hs2.le (Nat.zero_le _), SlsAt.nil 0 _, (h5.below bA (Nat.le_refl _)).le (Nat.zero_le _), hm, rfl, fun k _ e => (by cases e), ?_⟩, ?_, ?_⟩
  · exact ⟨hl.isr, fun L hL => (by cases hL), hl.plc, (by show num < 1000; have := hl.topm; have := hl.small; omega), (by show top < 1000; have := hl.small; omega), hl.len, (by have := hl.fits; show sizeN recs + 0 ≤ (d.safe.length - 2) * 128; omega)⟩
  · rintro k (rfl | hk | hk)
    · show w.heap.size ≤ Z.heap.size; omega
    · have := (hs.blk k hk).1; omega
    · cases hk
  · exact hB.trans ((h4.mono hw).trans ((hZ.mono (by omega)).trans (bA.mono (by omega))))
set_option maxRecDepth 100000 in
set_option maxHeartbeats 4000000 in
theorem open_any (p : Pl) (d : Dv) (w : World) (h : DevAt w p d) (pl num top : Nat) (recs : List (List Int)) (hl : LogIs d pl num top recs) :
    Calls Try.prog 8 #[ptr p.D] w fun e w' => OpenE w w' p (jvOf d pl num top recs) e := by
  have hmx : Try.prog.follows .mixedOrders = true := by kernel_rfl
  have hz := (zero_of_info jpair_zero).1
  have HCK := Lib.hid (check_ok p d w h hl.len.1 hl.up)
  have HP := Lib.hid (pairOf_any p d w h hl.up hl.len.1)
  have HD := Lib.hid h
  have HL := Lib.hid hl
  have hacc : ∀ k : Nat, k < 2 → accE d (k : Int) = 0 := fun k hk => by
    have := hl.len.1
    unfold accE; rw [hl.up, if_neg (by simp), if_pos ⟨by omega, by omega⟩]
  have HS0 := Lib.hid (show Sec (d.read 0) from read_sec h.ok (hacc 0 (by decide)))
  have HS1 := Lib.hid (show Sec (d.read 1) from read_sec h.ok (hacc 1 (by decide)))
  obtain ⟨A, hA⟩ : ∃ A, d.read 0 = A := ⟨_, rfl⟩
  obtain ⟨M, hM⟩ : ∃ M, d.read 1 = M := ⟨_, rfl⟩
  rw [hA] at HP HS0
  rw [hM] at HP HS1
  have HAM := Lib.hid (And.intro hA hM)
  have HCU := Lib.hid hl.cur
  obtain ⟨n, hn⟩ : ∃ n, sizeN recs = n := ⟨_, rfl⟩
  have HN := Lib.hid hn
  have hn6 : n ≤ 600000 := by have := hl.fits; have := hl.len; omega
  have hcap : n ≤ (d.safe.length - 2) * 128 := by have := hl.fits; omega
  obtain ⟨cp, hcp⟩ : ∃ cp, (d.safe.length - 2) * 128 = cp := ⟨_, rfl⟩
  have hcp6 : cp ≤ 600000 := by have := hl.len; omega
  have hcn : ¬ ((cp : Int) < (n : Int)) := by omega
  have ucp : IntKind.u64.wrap (cp : Int) = (cp : Int) := by rw [IntKind.wrap_u64]; omega
  have inn : IntKind.i64.wrap (n : Int) = (n : Int) := by rw [IntKind.wrap_i64]; omega
  have htop : ((top : Int) == 18446744073709551615) = false := by have := hl.small; simp; omega
  have HN6 := Lib.hid (And.intro hn6 hcap)
  have HCP := Lib.hid hcp
  rw [hn] at HCU
  clear h hl hacc hA hM hn hn6 hcap hcp hcp6
  go_enter Try.func8, Try.ntmps8
  go_wp2_with (first
    | (go_at_call 24; refine HCK.out.mono ?_; rintro e w' ⟨rfl, rfl⟩)
    | (go_at_call 25; refine HP.out.mono ?_; rintro e w1 ⟨rfl, hb1⟩; have HB1 := Lib.hid hb1; have HX := Lib.hid (At.new 58 w1 (nums .u8 256 fun _ => 0)); clear hb1)
    | (refine store_pair_op HX.out (nums_size _ _ _) HS0.out.1 HS1.out.1 rfl rfl rfl rfl ?_)
    | fail)
  obtain ⟨X, hX⟩ : ∃ X, X = (w1.alloc (.cells (nums .u8 256 fun _ => 0) 58)).setRow w1.heap.size (vals8 A ++ vals8 M).toArray := ⟨_, rfl⟩
  have hatX : At 58 X w1.heap.size (vals8 A ++ vals8 M).toArray := by rw [hX]; exact HX.out.row
  have hbX : Below w.heap.size w X := by
    have h1 := HB1.out
    rw [hX]
    exact below_row (h1.alloc h1.size _) h1.size _
  have hps := pair_sec hatX HS0.out HS1.out
  have HCUR := Lib.hid (current_any w1.heap.size (sup d) X hatX.lt (fun k hk => by
    rcases (show k = 0 ∨ k = 1 by omega) with rfl | rfl
    · rw [show sup d 0 = A from HAM.out.1]; exact hps.1
    · rw [show sup d 1 = M from HAM.out.2]; exact hps.2))
  rw [HCU.out] at HCUR
  have HBX := Lib.hid hbX
  rw [← hX]
  clear hX hatX hbX hps HX HP HCK
  refine HCUR.out.mono ?_
  rintro e w2 ⟨rfl, hb2⟩
  have hbw2 : Below w.heap.size w w2 := HBX.out.trans (hb2.mono HBX.out.size)
  obtain ⟨Y, hY⟩ : ∃ Y, Y = w2.alloc (.cells #[.int .i64 (pl : Nat), .int .u64 (num : Nat), .int .u64 (top : Nat)] 62) := ⟨_, rfl⟩
  have hatY : At 62 Y w2.heap.size #[.int .i64 (pl : Nat), .int .u64 (num : Nat), .int .u64 (top : Nat)] := by rw [hY]; exact At.new _ _ _
  have hbY : Below w.heap.size w Y := by rw [hY]; exact hbw2.alloc hbw2.size _
  have HY := Lib.hid (And.intro hatY (And.intro hbY hbw2.size))
  have HCAP := Lib.hid (capacity_any p d Y (HD.out.below hbY) HL.out.len.1)
  rw [HCP.out] at HCAP
  have HLOG := Lib.hid (logOf_any p d Y (HD.out.below hbY) HL.out.up n HL.out.len.1 HN6.out.2)
  have HFR := Lib.hid (show (logB d (d.safe.length - 2)).take n = framesL recs by rw [← HN.out]; exact HL.out.bytes)
  rw [HFR.out] at HLOG
  unfold LogE at HLOG
  rw [show (framesL recs).length = n from HN.out] at HLOG
  have HYE := Lib.hid hY
  rw [hY] at HCAP HLOG
  clear hb2 hbw2 hatY hbY HCUR HBX HB1 hY
  go_wp2_with (first
    | (go_at_call 27; refine HCAP.out.mono ?_; rintro e w' ⟨rfl, rfl⟩)
    | (go_at_call 28; refine HLOG.out.mono ?_; rintro e w3 ⟨la, lc, rfl, hlc, hb3, hB3⟩; rw [← HYE.out] at hB3; have H3 := Lib.hid (And.intro hlc (And.intro hb3 hB3)); have HEX := Lib.hid ((exact_any la n lc (framesL recs) recs [] w3 hb3 hlc (scans_all HL.out.isr) (by rw [show (framesL recs).length = n from HN.out]; have := HN6.out.1; omega)).mono (fun e w' (q : ExactE recs [] w3 e w') => q.elim id (fun q => absurd rfl q.1))); have HY3 := Lib.hid (HY.out.1.below HY.out.1.lt hB3); clear hlc hb3 hB3)
    | (go_at_call 29; refine HEX.out.mono ?_; rintro e w4 ⟨_, ra, rc, rfl, hrc, hown, hB4⟩; have HY4 := Lib.hid (HY3.out.below HY3.out.lt hB4); have y2 : w4.cell? ⟨w2.heap.size, 2, none⟩ = some (.int .u64 (top : Nat)) := HY4.out.cell 2; have H4 := Lib.hid (And.intro hrc (And.intro hown hB4)); clear hrc hown hB4)
    | fail)
  have HPO := Lib.hid (fun (Zd : World) (hz : Below w4.heap.size w4 Zd) => partialOf_any (B := w4.heap.size) la n lc (framesL recs) Zd ((H3.out.2.1.from H4.out.2.2 (Nat.le_refl _)).below hz) (show n = (framesL recs).length from HN.out.symm) H3.out.1 hz.size (by have := HN6.out.1; omega))
  rw [show (framesL recs).drop (n / 128 * 128) = partL recs by unfold partL; rw [HN.out]] at HPO
  unfold Made at HPO
  obtain ⟨m5, hm5⟩ : ∃ m5, (partL recs).length = m5 := ⟨_, rfl⟩
  rw [hm5] at HPO
  have HM5 := Lib.hid hm5
  obtain ⟨rl, hrl⟩ : ∃ rl, recs.length = rl := ⟨_, rfl⟩
  have HRL := Lib.hid hrl
  rw [hrl] at H4 ⊢
  have HPD := Lib.hid (HPO.out w4.drew (Below.refl _ _).drew)
  clear hrl hm5 y2 htop hcn ucp inn
  have q1 : (fun Z : World => At 62 Z w2.heap.size #[.int .i64 (pl : Nat), .int .u64 (num : Nat), .int .u64 (top : Nat)]) w4.drew := HY4.out
  refine regionL (fun Z : World => At 62 Z w2.heap.size #[.int .i64 (pl : Nat), .int .u64 (num : Nat), .int .u64 (top : Nat)]) 10 (by kernel_rfl) ?_
  refine takeL (i := 0) (oi := { dst := some 59, op := Go.Op.move (Go.Operand.tmp 0), type := 27, pos := "journal.go:56", after := #[], guard := none }) (v := ptr p.D) [10, 9, 8, 7] rfl (by kernel_rfl) (by kernel_rfl) (by kernel_rfl) (by kernel_rfl) (fun _ _ _ h => calm_panic h) rfl ?_ q1 ?_
  · intro Z hZ; go_simp
  simp only [Act.put, List.setIfInBounds_toArray, List.set_cons_zero, List.set_cons_succ]
  refine takeL (i := 1) (oi := { dst := some 60, op := Go.Op.move (Go.Operand.tmp 11), type := 22, pos := "journal.go:56", after := #[], guard := none }) (v := .slice ra rl rc) [10, 9, 8, 7] rfl (by kernel_rfl) (by kernel_rfl) (by kernel_rfl) (by kernel_rfl) (fun _ _ _ h => calm_panic h) rfl ?_ q1 ?_
  · intro Z hZ; go_simp
  simp only [Act.put, List.setIfInBounds_toArray, List.set_cons_zero, List.set_cons_succ]
  refine takeL (i := 2) (oi := { dst := some 61, op := Go.Op.move (Go.Operand.tmp 10), type := 23, pos := "journal.go:56", after := #[], guard := none }) (v := .slice la n lc) [10, 9, 8, 7, 3] rfl (by kernel_rfl) (by kernel_rfl) (by kernel_rfl) (by kernel_rfl) (fun _ _ _ h => calm_panic h) rfl ?_ q1 ?_
  · intro Z hZ; go_simp
  simp only [Act.put, List.setIfInBounds_toArray, List.set_cons_zero, List.set_cons_succ]
  refine takeL (i := 3) (oi := { dst := some 62, op := Go.Op.call { callee := Go.Callee.builtin Go.Builtin.len, args := #[Go.Operand.tmp 61], argTypes := #[23] }, type := 3, pos := "journal.go:56", after := #[{ on := 2, ground := Go.Ground.data }], guard := none }) (v := .int .i64 (n : Int)) [10, 9, 8, 7] rfl (by kernel_rfl) (by kernel_rfl) (by kernel_rfl) (by kernel_rfl) (fun _ _ _ h => calm_panic h) rfl ?_ q1 ?_
  · intro Z hZ; go_simp
  simp only [Act.put, List.setIfInBounds_toArray, List.set_cons_zero, List.set_cons_succ]
  refine takeL (i := 4) (oi := { dst := some 63, op := Go.Op.move (Go.Operand.tmp 10), type := 23, pos := "journal.go:56", after := #[], guard := none }) (v := .slice la n lc) [10, 9, 8, 7, 5] rfl (by kernel_rfl) (by kernel_rfl) (by kernel_rfl) (by kernel_rfl) (fun _ _ _ h => calm_panic h) rfl ?_ q1 ?_
  · intro Z hZ; go_simp
  simp only [Act.put, List.setIfInBounds_toArray, List.set_cons_zero, List.set_cons_succ]
  refine takeL (i := 6) (oi := { dst := some 65, op := Go.Op.load 62 (Go.Operand.tmp 7), type := 62, pos := "journal.go:56", after := #[], guard := none }) (v := .agg #[.int .i64 (pl : Nat), .int .u64 (num : Nat), .int .u64 (top : Nat)]) [10, 9, 8, 7] rfl (by kernel_rfl) (by kernel_rfl) (by kernel_rfl) (by kernel_rfl) (fun _ _ _ h => calm_panic h) rfl ?_ q1 ?_
  · exact fun Z hZ => exec_load rfl rfl (load_head hZ)
  simp only [Act.put, List.setIfInBounds_toArray, List.set_cons_zero, List.set_cons_succ]
  refine oneL (i := 5) (o := { dst := some 64, op := Go.Op.call { callee := Go.Callee.value (Go.Operand.func 30), args := #[Go.Operand.tmp 63], argTypes := #[23] }, type := 23, pos := "journal.go:56", after := #[{ on := 4, ground := Go.Ground.data }], guard := none }) rfl (by kernel_rfl) rfl ?_
  refine wp_by_call (f := 30) (args := #[.slice la n lc]) (by go_simp) (HPD.out.mono ?_)
  rintro e Z ⟨a5, c5, rfl, hO5, hB5⟩
  have hZ4 : Below w4.heap.size w4 Z := (Below.refl _ w4).drew.trans hB5
  have H5 := Lib.hid (And.intro (show Own8 w4.heap.size Z (.slice a5 m5 c5) (partL recs) from hO5) hZ4)
  have q5 : (fun Z : World => At 62 Z w2.heap.size #[.int .i64 (pl : Nat), .int .u64 (num : Nat), .int .u64 (top : Nat)]) Z := HY4.out.below HY4.out.lt hZ4
  clear hO5 hB5 hZ4 q1
  refine ⟨_, rfl, fun _ => q5, ?_⟩
  simp only [Act.put, List.setIfInBounds_toArray, List.set_cons_zero, List.set_cons_succ]
  refine takeL (i := 7) (oi := { dst := some 66, op := Go.Op.build 72 #[(0, Go.Operand.tmp 59), (1, Go.Operand.tmp 60), (2, Go.Operand.tmp 62), (3, Go.Operand.tmp 64), (6, Go.Operand.tmp 65)], type := 72, pos := "journal.go:56", after := #[{ on := 0, ground := Go.Ground.data }, { on := 1, ground := Go.Ground.data }, { on := 3, ground := Go.Ground.data }, { on := 5, ground := Go.Ground.data }, { on := 6, ground := Go.Ground.data }], guard := none }) (v := .agg #[ptr p.D, .slice ra rl rc, .int .i64 (n : Int), .slice a5 m5 c5, .slice none 0 0, .int .i64 0, .int .i64 (pl : Nat), .int .u64 (num : Nat), .int .u64 (top : Nat), .int .i64 0]) [10, 9, 8] rfl (by kernel_rfl) (by kernel_rfl) (by kernel_rfl) (by kernel_rfl) (fun _ _ _ h => calm_panic h) rfl ?_ q5 ?_
  · intro Z hZ; go_simp
  simp only [Act.put, List.setIfInBounds_toArray, List.set_cons_zero, List.set_cons_succ]
  have q8 : (fun Z : World => At 62 Z w2.heap.size #[.int .i64 (pl : Nat), .int .u64 (num : Nat), .int .u64 (top : Nat)]) (Z.alloc (.cells #[ptr p.D, .slice ra rl rc, .int .i64 (n : Int), .slice a5 m5 c5, .slice none 0 0, .int .i64 0, .int .i64 (pl : Nat), .int .u64 (num : Nat), .int .u64 (top : Nat), .int .i64 0] 72)) := At.below q5 q5.lt ((Below.refl _ Z).alloc (Nat.le_refl _) _)
  refine oneL (i := 8) (o := { dst := some 67, op := Go.Op.box 72 (Go.Operand.tmp 66), type := 31, pos := "journal.go:56", after := #[{ on := 7, ground := Go.Ground.data }], guard := none }) rfl (by kernel_rfl) rfl ?_
  refine wp_by_run (w' := Z.alloc (.cells #[ptr p.D, .slice ra rl rc, .int .i64 (n : Int), .slice a5 m5 c5, .slice none 0 0, .int .i64 0, .int .i64 (pl : Nat), .int .u64 (num : Nat), .int .u64 (top : Nat), .int .i64 0] 72)) (v := ptr Z.heap.size) (by go_simp) ⟨fun _ => q8, ?_⟩
  simp only [Act.put, List.setIfInBounds_toArray, List.set_cons_zero, List.set_cons_succ]
  refine takeL (i := 9) (oi := { dst := some 2, op := Go.Op.assign (Go.Operand.tmp 67), type := 31, pos := "journal.go:56", after := #[{ on := 8, ground := Go.Ground.data }, { on := 5, ground := Go.Ground.chain }, { on := 0, ground := Go.Ground.phase }, { on := 1, ground := Go.Ground.phase }, { on := 2, ground := Go.Ground.phase }, { on := 3, ground := Go.Ground.phase }, { on := 4, ground := Go.Ground.phase }, { on := 5, ground := Go.Ground.phase }, { on := 6, ground := Go.Ground.phase }, { on := 7, ground := Go.Ground.phase }, { on := 8, ground := Go.Ground.phase }], guard := none }) (v := ptr Z.heap.size) [10] rfl (by kernel_rfl) (by kernel_rfl) (by kernel_rfl) (by kernel_rfl) (fun _ _ _ h => calm_panic h) rfl ?_ q8 ?_
  · intro Zx hZ; go_simp
  simp only [Act.put, List.setIfInBounds_toArray, List.set_cons_zero, List.set_cons_succ]
  refine oneL (i := 10) (o := { dst := some 3, op := Go.Op.assign (Go.Operand.const (Go.Value.int Go.IntKind.i64 0)), type := 28, pos := "journal.go:56", after := #[{ on := 9, ground := Go.Ground.chain }, { on := 0, ground := Go.Ground.phase }, { on := 1, ground := Go.Ground.phase }, { on := 2, ground := Go.Ground.phase }, { on := 3, ground := Go.Ground.phase }, { on := 4, ground := Go.Ground.phase }, { on := 5, ground := Go.Ground.phase }, { on := 6, ground := Go.Ground.phase }, { on := 7, ground := Go.Ground.phase }, { on := 8, ground := Go.Ground.phase }, { on := 9, ground := Go.Ground.phase }], guard := none }) rfl (by kernel_rfl) rfl ?_
  refine wp_by_run (w' := Z.alloc (.cells #[ptr p.D, .slice ra rl rc, .int .i64 (n : Int), .slice a5 m5 c5, .slice none 0 0, .int .i64 0, .int .i64 (pl : Nat), .int .u64 (num : Nat), .int .u64 (top : Nat), .int .i64 0] 72)) (v := .int .i64 0) (by go_simp) ⟨fun h => absurd rfl h, ?_⟩
  simp only [Act.put, List.setIfInBounds_toArray, List.set_cons_zero, List.set_cons_succ]
  refine doneL (by kernel_rfl) (Calm.normal ?_) _
  go_wp2
  go_ret2
  have hx := open_end (w := w) (p := p) (num := num) (top := top) (pl := pl) HL.out (by rw [HRL.out]; exact H4.out.1) (by rw [HRL.out]; exact H4.out.2.1) H4.out.2.2 (Nat.le_trans HY.out.2.1.size H3.out.2.2.size) (HY.out.2.1.trans (H3.out.2.2.mono HY.out.2.1.size)) H5.out.1 H5.out.2
  rw [HRL.out, HN.out] at hx
  exact hx
end Go.Proofs.Ytpcbolmidnoaiaa
