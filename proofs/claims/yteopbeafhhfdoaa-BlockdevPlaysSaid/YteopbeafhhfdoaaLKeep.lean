/- The statement BlockdevKeeps, walked. -/
import Derived.Test.YteopbeafhhfdoaaLKeepT
import Derived.Test.YteopbeafhhfdoaaDRestartE
import Derived.Deep.QuietTactic
import Derived.BigQuiet
set_option linter.unusedVariables false
set_option linter.unusedSimpArgs false
namespace Go.Proofs.Yteopbeafhhfdoaa
open Go.RowKit
theorem load_any_op {ops : Array Oper} {rest : List Oper} {o : Oper} {a : Act} {w : World} {Q : Exit → Act → World → Prop} {T : TypeId} {x : Operand} {p : Addr} {v : Value} (h : (loadVar T p).run Try.prog w = .ok v w)
    (hgd : o.guard = none) (ho : o.op = .load T x) (hx : a.eval x = .pointer (some p)) (hk : wpList Try.prog ops Q rest (a.put o.dst v) w) : wpList Try.prog ops Q (o :: rest) a w := by
  refine wpList_plain hgd fun K hK => ?_
  unfold Oper.wp
  rw [exec_load ho hx h]
  exact hK _ _ hk
theorem exec_conv {o : Oper} {a : Act} {x : Operand} {w : World} {v : Value} {s : ByteArray} (ho : o.op = .convert 32 9 x) (hx : a.eval x = v) (h : (convert 32 9 v).run Try.prog w = .ok (.string s) w) : (execOp a.eval o).run Try.prog w = .ok (.value (.string s)) w := by
  unfold execOp
  simp only [ho, hx, Sem.run_bind, Sem.run_pure, Result.andThen_ok, h]
/-- Up, without a plan, and what was flushed. -/
theorem UpD.write_ok {d : Dv} {k : Nat} (h : UpD d k) (ok : d.Ok) (n : Int) (L : List Int) : (writeE d n L.length = 0 ∧ HasN d n ∧ L.length = 128 ∧ (d.write n L).safe = d.safe ∧ (d.write n L).cache = d.cache ++ [(n, L)]) ∨ (writeE d n L.length ≠ 0 ∧ d.write n L = d) := by
  rcases write_is d n L with ⟨e, hc⟩ | ⟨h0, h1, h2, e⟩
  · refine .inr ⟨fun he => ?_, e⟩
    unfold writeE at he
    by_cases h0 : accE d n = 0
    · rw [if_neg (by simpa using h0)] at he
      rcases hc with q | q | q
      · exact q h0
      · rw [if_pos q] at he; cases he
      · rw [if_pos q] at he
        split at he <;> cases he
    · rw [if_pos h0] at he; exact h0 he
  · refine .inl ⟨?_, has_of h0, h1, by rw [e]; rfl, by rw [e]; rfl⟩
    unfold writeE
    rw [if_neg (by simpa using h0), if_neg (by simpa using h1), if_neg h2, h.counted ok]; rfl
theorem read_empty {d : Dv} (h : d.cache = []) (n : Int) : d.read n = d.at n := by unfold Dv.read lastOf; rw [h]; rfl
/-- What a sector held, and the writes to it, as strings. -/
def histS (s : List (List Int)) (c : List (Int × List Int)) (n : Nat) : List ByteArray := (hist s c n).map strOfNums
theorem histS_pos (s : List (List Int)) (c : List (Int × List Int)) (n : Nat) : 0 < (histS s c n).length := by simp [histS, hist]
theorem histS_snoc (s : List (List Int)) (c : List (Int × List Int)) (m : Nat) (L : List Int) : histS s (c ++ [((m : Int), L)]) = fun n => if n = m then histS s c m ++ [strOfNums L] else histS s c n := by
  funext n
  unfold histS
  rw [hist_snoc]
  by_cases h : n = m
  · rw [if_pos (by omega), if_pos h, h]; simp
  · rw [if_neg (by omega), if_neg h]
/-- What the eight sectors hold, and what they held. -/
def SS (s : List (List Int)) : Nat → ByteArray := fun j => if j < 8 then strOfNums (s.getD j []) else ByteArray.empty
def HS (s : List (List Int)) (c : List (Int × List Int)) : Nat → List ByteArray := fun j => if j < 8 then histS s c j else []
theorem HS_at (s : List (List Int)) (c : List (Int × List Int)) {j : Nat} (h : j < 8) : HS s c j = histS s c j := by unfold HS; rw [if_pos h]
theorem HS_snoc (s : List (List Int)) (c : List (Int × List Int)) {m : Nat} (hm : m < 8) (L : List Int) : (fun i => if i = m then HS s c m ++ [strOfNums L] else HS s c i) = HS s (c ++ [((m : Int), L)]) := by
  funext n
  unfold HS
  rw [histS_snoc]
  by_cases h : n = m
  · subst h; simp [hm]
  · simp [h]
theorem below_drewN {B : Nat} {a w : World} (h : Below B a w) (n : Nat) : Below B a (w.drewN n) := h.trans ⟨rfl, rfl, rfl, Nat.le_refl _, fun _ _ => rfl⟩
theorem wrapI_nat (n : Nat) (h : n < 100000) : IntKind.i64.wrap (n : Int) = n := by rw [IntKind.wrap_i64]; omega
theorem load_at {T : TypeId} {w : World} {b : Nat} {cs : Array Value} (h : At T w b cs) (u : Try.prog.underlying T = Try.prog.underlying 34) (hT : T = 34) (hs : cs.size = 3) : (loadVar T ⟨b, 0, none⟩).run Try.prog w = .ok (.agg cs) w := by
  subst hT
  have := run_loadVar_mid (P := Try.prog) w b 0 34 cs.toList _ (fun j v hv => by
    rw [Nat.zero_add, h.cell j]; simpa using hv) Try.underlying34 rfl (by
    rw [Array.length_toList, hs]
    show some 3 = _
    kernel_rfl)
  simpa using this
theorem bys_crash {w W : World} {a : Option Addr} {l c : Nat} {K : List Int} (h : Bys8 w.heap.size w (.slice a l c) K) (hB : Below w.heap.size w W) : Bys8 W.heap.size W (.slice a l c) K := (h.below hB).mono hB.size
theorem bys_own {n : Nat} {w : World} {a : Option Addr} {l c : Nat} {K : List Int} (h : Bys8 n w (.slice a l c) K) (hne : K ≠ []) : ∀ k, (Value.slice a l c).ownBlock = some k → k < n := fun k e => by
  rcases h.2 with ⟨e0, _⟩ | ⟨b, off, cap, e1, hb, _⟩
  · exact absurd e0 hne
  · cases e1
    cases e
    exact hb
theorem histS_len (s : List (List Int)) (c : List (Int × List Int)) (n : Nat) : (histS s c n).length ≤ c.length + 1 := by
  unfold histS hist
  rw [List.length_map, List.length_cons, List.length_map]
  have := List.length_filter_le (fun x : Int × List Int => decide (x.1 = (n : Int))) c
  omega
theorem hist_pos (s : List (List Int)) (c : List (Int × List Int)) (n : Nat) : 0 < (hist s c n).length := by simp [hist]
/-- Sector n is that of write t. -/
def Torn (c : List (Int × List Int)) (t : Int) (n : Nat) : Prop := ∃ (j : Nat) (x : Int × List Int), c[j]? = some x ∧ (j : Int) = t ∧ x.1 = (n : Int)
theorem Torn.one {c : List (Int × List Int)} {t : Int} {n m : Nat} (h : Torn c t n) (h' : Torn c t m) : n = m := by
  obtain ⟨j, x, h1, h2, h3⟩ := h
  obtain ⟨j', x', h1', h2', h3'⟩ := h'
  have e : j = j' := by omega
  subst e
  rw [h1] at h1'
  cases h1'
  omega
/-- What the two devices hold after the crashes. -/
structure KeepF (s : List (List Int)) (c : List (Int × List Int)) (t : Int) (dA dB : Dv) : Prop where
  a : dA.down = false ∧ dA.cache = [] ∧ dA.safe.length = 8
  b : dB.down = false ∧ dB.cache = [] ∧ dB.safe.length = 8
  last : ∀ n : Nat, n < 8 → strOfNums (dB.at (n : Int)) = (HS s c n).getD ((HS s c n).length - 1) ByteArray.empty
  same : ∀ n : Nat, n < 8 → (HS s c n).length = 1 → strOfNums (dA.at (n : Int)) = SS s n
  mem : ∀ n : Nat, n < 8 → ¬ Torn c t n → ∃ j, j < (HS s c n).length ∧ (HS s c n).getD j ByteArray.empty = strOfNums (dA.at (n : Int))
theorem restart_is (d : Dv) (f : Nat → Nat) : (d.pull.restart f).down = false ∧ (d.pull.restart f).cache = [] ∧ (d.pull.restart f).safe = putAll (applied f 0 d.cache) d.safe := ⟨rfl, rfl, rfl⟩
theorem map_getD (L : List (List Int)) (j : Nat) (h : j < L.length) : (L.map strOfNums).getD j ByteArray.empty = strOfNums (L.getD j []) := by simp [List.getD, h]
theorem keepF {d : Dv} (ok : d.Ok) (hl : d.safe.length = 8) (hc : d.cache.length ≤ 200) (K : List Int) (t y : Int) : KeepF d.safe d.cache t (d.pull.restart (leftN K t y)) (d.pull.restart (leftN (List.replicate 40 255) (-1) 0)) := by
  obtain ⟨a1, a2, a3⟩ := restart_is d (leftN K t y)
  obtain ⟨b1, b2, b3⟩ := restart_is d (leftN (List.replicate 40 255) (-1) 0)
  have hA : ∀ n : Nat, (d.pull.restart (leftN K t y)).at (n : Int) = (putAll (applied (leftN K t y) 0 d.cache) d.safe).getD n [] := fun n => by unfold Dv.at; rw [a3, Int.toNat_natCast]
  have hB : ∀ n : Nat, (d.pull.restart (leftN (List.replicate 40 255) (-1) 0)).at (n : Int) = (putAll (applied (leftN (List.replicate 40 255) (-1) 0) 0 d.cache) d.safe).getD n [] := fun n => by unfold Dv.at; rw [b3, Int.toNat_natCast]
  refine ⟨⟨a1, a2, by rw [a3, putAll_len, hl]⟩, ⟨b1, b2, by rw [b3, putAll_len, hl]⟩, fun n hn => ?_, fun n hn h1 => ?_, fun n hn ht => ?_⟩
  · rw [hB, HS_at _ _ hn, hist_last _ n d.cache 0 d.safe ok.fit (fun j hj => leftN_full _ (by omega)) (by omega)]
    unfold histS
    rw [List.length_map, map_getD _ _ (by have := hist_pos d.safe d.cache n; omega)]
  · rw [HS_at _ _ hn] at h1
    unfold histS at h1
    rw [List.length_map] at h1
    rw [hA, hist_none _ n d.cache 0 d.safe ok.fit (leftN_le K t y) h1]
    unfold SS
    rw [if_pos hn]
  · have hm := hist_mem (leftN K t y) n d.cache 0 d.safe [d.safe.getD n []] ok.fit (by simp) (fun j x hx he => by
      rw [Nat.zero_add]
      exact leftN_whole K t y j (fun e => ht ⟨j, x, hx, e, he⟩)) (leftN_le K t y)
    have hm : (putAll (applied (leftN K t y) 0 d.cache) d.safe).getD n [] ∈ hist d.safe d.cache n := hm
    obtain ⟨j, hj, e⟩ := List.getElem_of_mem hm
    refine ⟨j, by rw [HS_at _ _ hn]; unfold histS; rw [List.length_map]; exact hj, ?_⟩
    rw [HS_at _ _ hn, hA]
    unfold histS
    rw [map_getD _ _ hj, ← e]
    simp [List.getD, hj]
set_option maxRecDepth 100000 in
set_option maxHeartbeats 16000000 in
theorem keepW (a0 : Option Addr) (len0 cap0 : Nat) (L0 : Nat → Opn) (a1 : Option Addr) (len1 cap1 : Nat) (L1 : Nat → Opn) (ka : Option Addr) (kc : Nat) (K : List Int) (tt yy : Int) (w : World) (h0 : (len0 ≤ cap0 ∧ cap0 ≤ maxLen) ∧ OpsAt w.heap.size w a0 len0 L0) (h1 : (len1 ≤ cap1 ∧ cap1 ≤ maxLen) ∧ OpsAt w.heap.size w a1 len1 L1) (h2 : Bys8 w.heap.size w (.slice ka K.length kc) K) :
    Calls Try.prog 5 #[.slice a0 len0 cap0, .slice a1 len1 cap1, crashV ka K.length kc tt yy] w fun e w' => e = .returned (.bool true) ∧ Below w.heap.size w w' := by
  have HA := Lib.hid (And.intro h0.2 (And.intro h1.2 h2))
  obtain ⟨X, hX⟩ : ∃ X, X = w.alloc (.cells #[.slice ka K.length kc, .int .i64 tt, .int .i64 yy] 34) := ⟨_, rfl⟩
  have hBX : Below w.heap.size w X := by rw [hX]; exact (Below.refl _ w).alloc (Nat.le_refl _) _
  have hcb : At 34 X w.heap.size #[.slice ka K.length kc, .int .i64 tt, .int .i64 yy] := by rw [hX]; exact At.new _ w _
  have HX := Lib.hid (And.intro hBX hcb)
  have HXE := Lib.hid hX
  clear h0 h1 h2 hX hBX hcb
  unfold crashV
  go_enter Try.func5, Try.ntmps5
  go_wp2_with fail
  rw [← HXE.out]
  refine (Al.alive_any _).mono ?_
  rintro e w1 ⟨rfl, hB⟩
  have HB1 := Lib.hid (HX.out.1.trans (hB.mono HX.out.1.size))
  have BX := Lib.hid (HX.out.2.below HX.out.2.lt hB)
  have c0 : w1.cell? ⟨w.heap.size, 0, none⟩ = some (.slice ka K.length kc) := BX.out.cell 0
  have H0 := Lib.hid (HA.out.1.next HB1.out)
  have H1 := Lib.hid (HA.out.2.1.next HB1.out)
  clear hB HX HXE X
  by_cases g0 : GreatIs len0 L0
  case neg =>
    have C0 := Lib.hid (great_no (cap := cap0) H0.out g0)
    have C1 := Lib.hid (great_any w.heap.size a1 len1 cap1 L1 w1 H1.out)
    clear g0
    go_wp2_with (first | (go_at_call 7; with_reducible refine C0.out.mono ?_; rintro e w' ⟨rfl, rfl⟩) | (go_at_call 7; with_reducible refine C1.out.mono ?_; rintro e w' ⟨rfl, rfl⟩))
    go_ret
    exact ⟨rfl, HB1.out⟩
  have C0 := Lib.hid (great_yes (cap := cap0) H0.out g0)
  by_cases g1 : GreatIs len1 L1
  case neg =>
    have C1 := Lib.hid (great_no (cap := cap1) H1.out g1)
    clear g0 g1
    go_wp2_with (first | (go_at_call 7; with_reducible refine C0.out.mono ?_; rintro e w' ⟨rfl, rfl⟩) | (go_at_call 7; with_reducible refine C1.out.mono ?_; rintro e w' ⟨rfl, rfl⟩))
    go_ret
    exact ⟨rfl, HB1.out⟩
  have C1 := Lib.hid (great_yes (cap := cap1) H1.out g1)
  by_cases lk : K.length ≤ 64
  case neg =>
    have ik : (64 : Int) < (K.length : Int) := by omega
    clear g0 g1 lk
    go_wp2_with (first | (go_at_call 7; with_reducible refine C0.out.mono ?_; rintro e w' ⟨rfl, rfl⟩) | (go_at_call 7; with_reducible refine C1.out.mono ?_; rintro e w' ⟨rfl, rfl⟩))
    go_ret
    exact ⟨rfl, HB1.out⟩
  have ik : ¬ ((64 : Int) < (K.length : Int)) := by omega
  by_cases l0 : len0 ≤ 200
  case neg =>
    have i0 : (200 : Int) < (len0 : Int) := by omega
    clear g0 g1 lk l0
    go_wp2_with (first | (go_at_call 7; with_reducible refine C0.out.mono ?_; rintro e w' ⟨rfl, rfl⟩) | (go_at_call 7; with_reducible refine C1.out.mono ?_; rintro e w' ⟨rfl, rfl⟩))
    go_ret
    exact ⟨rfl, HB1.out⟩
  have i0 : ¬ ((200 : Int) < (len0 : Int)) := by omega
  by_cases l1 : len1 ≤ 200
  case neg =>
    have i1 : (200 : Int) < (len1 : Int) := by omega
    clear g0 g1 lk l0 l1
    go_wp2_with (first | (go_at_call 7; with_reducible refine C0.out.mono ?_; rintro e w' ⟨rfl, rfl⟩) | (go_at_call 7; with_reducible refine C1.out.mono ?_; rintro e w' ⟨rfl, rfl⟩))
    go_ret
    exact ⟨rfl, HB1.out⟩
  have i1 : ¬ ((200 : Int) < (len1 : Int)) := by omega
  have HG := Lib.hid (And.intro g0 (And.intro g1 (And.intro l0 l1)))
  clear g0 g1 l0 l1 lk
  go_wp2_with (first | (go_at_call 7; with_reducible refine C0.out.mono ?_; rintro e w' ⟨rfl, rfl⟩) | (go_at_call 7; with_reducible refine C1.out.mono ?_; rintro e w' ⟨rfl, rfl⟩) | fail)
  refine (new_yes 8 (by decide) (by decide) w1).mono ?_
  rintro e W0 ⟨p0, rfl, hd, hf, hB⟩
  have S0 := Lib.hid (show St w p0.D #[.slice ka K.length kc, .int .i64 tt, .int .i64 yy] W0 p0 (Dv.new 8) from ⟨⟨hd, fun k hk => Nat.le_trans HB1.out.size (hf k hk), HB1.out.trans (hB.mono HB1.out.size), rfl, Nat.le_trans HB1.out.size hB.size⟩, BX.out.below BX.out.lt hB⟩)
  obtain ⟨D, hD⟩ : ∃ D, p0.D = D := ⟨_, rfl⟩
  rw [hD] at S0 ⊢
  clear hd hf hB hD C0 C1 H0 H1 i0 i1 ik c0 BX HB1
  obtain ⟨CB, hCB⟩ : ∃ c, #[Value.slice ka K.length kc, .int .i64 tt, .int .i64 yy] = c := ⟨_, rfl⟩
  rw [hCB] at S0
  have HCB := Lib.hid hCB
  clear hCB
  go_wp2_with fail
  refine wp_loop (fun a' w' => ∃ l : List Value, a' = ⟨l.toArray, []⟩ ∧ l.length = 257 ∧ (l.getD 0 undef = .slice a0 len0 cap0 ∧ l.getD 1 undef = .slice a1 len1 cap1 ∧ l.getD 5 undef = .pointer (some ⟨w.heap.size, 0, none⟩) ∧ l.getD 7 undef = .bool true ∧ l.getD 8 undef = ptr D ∧ l.getD 65 undef = .int .i64 (len0 : Int)) ∧ ∃ i : Value, l.getD 66 undef = i ∧ (∃ (k : Nat) (q : Pl) (d : Dv), k ≤ len0 ∧ i = .int .i64 k ∧ St w D CB w' q d ∧ UpD d (2 * k))) (fun a' w' => len0 - (intOf (a'.tmps.getD 66 undef)).toNat) ?_ ?_
  · refine ⟨_, rfl, rfl, ⟨rfl, rfl, rfl, rfl, rfl, rfl⟩, _, rfl, ?_⟩
    exact ⟨0, p0, Dv.new 8, Nat.zero_le _, rfl, S0.out, rfl, rfl, rfl, Int.le_refl _⟩
  · rintro _ wr ⟨l, rfl, hl, ⟨g0, g1, g5, g7, g8, g65⟩, i, v66, k, q, d, hk, hki, hS, hU⟩
    obtain ⟨u, hu, hv⟩ : ∃ u : Nat → Value, (∀ i, l.getD i undef = u i) ∧ l = (List.range 257).map u := ⟨_, fun _ => rfl, frame_of hl⟩
    rw [hu] at g0 g1 g5 g7 g8 g65 v66
    rw [hv, show (List.range 257).map u = [u 0, u 1, u 2, u 3, u 4, u 5, u 6, u 7, u 8, u 9, u 10, u 11, u 12, u 13, u 14, u 15, u 16, u 17, u 18, u 19, u 20, u 21, u 22, u 23, u 24, u 25, u 26, u 27, u 28, u 29, u 30, u 31, u 32, u 33, u 34, u 35, u 36, u 37, u 38, u 39, u 40, u 41, u 42, u 43, u 44, u 45, u 46, u 47, u 48, u 49, u 50, u 51, u 52, u 53, u 54, u 55, u 56, u 57, u 58, u 59, u 60, u 61, u 62, u 63, u 64, u 65, u 66, u 67, u 68, u 69, u 70, u 71, u 72, u 73, u 74, u 75, u 76, u 77, u 78, u 79, u 80, u 81, u 82, u 83, u 84, u 85, u 86, u 87, u 88, u 89, u 90, u 91, u 92, u 93, u 94, u 95, u 96, u 97, u 98, u 99, u 100, u 101, u 102, u 103, u 104, u 105, u 106, u 107, u 108, u 109, u 110, u 111, u 112, u 113, u 114, u 115, u 116, u 117, u 118, u 119, u 120, u 121, u 122, u 123, u 124, u 125, u 126, u 127, u 128, u 129, u 130, u 131, u 132, u 133, u 134, u 135, u 136, u 137, u 138, u 139, u 140, u 141, u 142, u 143, u 144, u 145, u 146, u 147, u 148, u 149, u 150, u 151, u 152, u 153, u 154, u 155, u 156, u 157, u 158, u 159, u 160, u 161, u 162, u 163, u 164, u 165, u 166, u 167, u 168, u 169, u 170, u 171, u 172, u 173, u 174, u 175, u 176, u 177, u 178, u 179, u 180, u 181, u 182, u 183, u 184, u 185, u 186, u 187, u 188, u 189, u 190, u 191, u 192, u 193, u 194, u 195, u 196, u 197, u 198, u 199, u 200, u 201, u 202, u 203, u 204, u 205, u 206, u 207, u 208, u 209, u 210, u 211, u 212, u 213, u 214, u 215, u 216, u 217, u 218, u 219, u 220, u 221, u 222, u 223, u 224, u 225, u 226, u 227, u 228, u 229, u 230, u 231, u 232, u 233, u 234, u 235, u 236, u 237, u 238, u 239, u 240, u 241, u 242, u 243, u 244, u 245, u 246, u 247, u 248, u 249, u 250, u 251, u 252, u 253, u 254, u 255, u 256] from rfl]
    rw [g0, g1, g5, g7, g8, g65, v66]
    clear hu hv hl g0 g1 g5 g7 g8 g65 v66 l
    rw [hki]
    clear hki i S0
    by_cases hlt : k < len0
    case pos =>
      have i1 : (k : Int) < len0 := by omega
      have in0 : (0 : Int) ≤ (k : Int) := by omega
      have wk : wrap64 ((k : Int) + 1) = ((k + 1 : Nat) : Int) := by have := HG.out.2.2.1; unfold wrap64; omega
      obtain ⟨b, o, hao, hop⟩ := HA.out.1.op hlt
      have LE300 := Lib.hid (HG.out.1.2 k hlt).2
      obtain ⟨x, hx⟩ : ∃ x, L0 k = x := ⟨_, rfl⟩
      rw [hx] at hop LE300
      rw [hao]
      have HAO := Lib.hid hao
      have OK := Lib.hid hop
      have BW := Lib.hid hS.dev.below
      have S := Lib.hid hS
      have CA := Lib.hid (show d.calls < 4611686018427387904 by have := hU.calls; have := HG.out.2.2.1; omega)
      have HK := Lib.hid hlt
      have HU := Lib.hid (hU.write hS.dev.dev.ok x.n (bytesL x))
      clear hop hS hU hlt hk hx hao
      go_wp2_with fail
      refine regionL (fun Z : World => Below w.heap.size w Z) 12 (by kernel_rfl) ?_
      have q1 : (fun Z : World => Below w.heap.size w Z) wr.drew := BW.out.drew
      refine takeL (i := 0) (oi := { dst := some 69, op := Go.Op.move (Go.Operand.tmp 8), type := 24, pos := "outright.go:77", after := #[], guard := none }) (v := ptr D) [12, 11] rfl (by kernel_rfl) (by kernel_rfl) (by kernel_rfl) (by kernel_rfl) (fun _ _ _ h => calm_panic h) rfl ?_ q1 ?_
      · intro Z hZ; go_simp
      simp only [Act.put, List.setIfInBounds_toArray, List.set_cons_zero, List.set_cons_succ]
      refine takeL (i := 1) (oi := { dst := some 70, op := Go.Op.move (Go.Operand.tmp 0), type := 22, pos := "outright.go:77", after := #[], guard := none }) (v := .slice (some ⟨b, o, none⟩) len0 cap0) [12, 11, 5, 4, 3] rfl (by kernel_rfl) (by kernel_rfl) (by kernel_rfl) (by kernel_rfl) (fun _ _ _ h => calm_panic h) rfl ?_ q1 ?_
      · intro Z hZ; go_simp
      simp only [Act.put, List.setIfInBounds_toArray, List.set_cons_zero, List.set_cons_succ]
      refine takeL (i := 2) (oi := { dst := some 71, op := Go.Op.move (Go.Operand.tmp 10), type := 3, pos := "outright.go:77", after := #[], guard := none }) (v := .int .i64 (k : Int)) [12, 11, 5, 4, 3] rfl (by kernel_rfl) (by kernel_rfl) (by kernel_rfl) (by kernel_rfl) (fun _ _ _ h => calm_panic h) rfl ?_ q1 ?_
      · intro Z hZ; go_simp
      simp only [Act.put, List.setIfInBounds_toArray, List.set_cons_zero, List.set_cons_succ]
      refine takeL (i := 3) (oi := { dst := some 72, op := Go.Op.indexAddr 22 (Go.Operand.tmp 70) (Go.Operand.tmp 71), type := 0, pos := "outright.go:77", after := #[{ on := 1, ground := Go.Ground.data }, { on := 2, ground := Go.Ground.data }], guard := none }) (v := .pointer (some ⟨b, o + k * 7, none⟩)) [12, 11, 5, 4] rfl (by kernel_rfl) (by kernel_rfl) (by kernel_rfl) (by kernel_rfl) (fun _ _ _ h => calm_panic h) rfl ?_ q1 ?_
      · intro Z hZ; go_simp
      simp only [Act.put, List.setIfInBounds_toArray, List.set_cons_zero, List.set_cons_succ]
      refine takeL (i := 4) (oi := { dst := some 73, op := Go.Op.fieldAddr 36 (Go.Operand.tmp 72) 1, type := 0, pos := "outright.go:77", after := #[{ on := 3, ground := Go.Ground.data }], guard := none }) (v := .pointer (some ⟨b, o + k * 7 + 1, none⟩)) [12, 11, 5] rfl (by kernel_rfl) (by kernel_rfl) (by kernel_rfl) (by kernel_rfl) (fun _ _ _ h => calm_panic h) rfl ?_ q1 ?_
      · intro Z hZ; go_simp
      simp only [Act.put, List.setIfInBounds_toArray, List.set_cons_zero, List.set_cons_succ]
      refine takeL (i := 5) (oi := { dst := some 74, op := Go.Op.load 3 (Go.Operand.tmp 73), type := 3, pos := "outright.go:77", after := #[{ on := 4, ground := Go.Ground.data }], guard := none }) (v := .int .i64 x.n) [12, 11] rfl (by kernel_rfl) (by kernel_rfl) (by kernel_rfl) (by kernel_rfl) (fun _ _ _ h => calm_panic h) rfl ?_ q1 ?_
      · intro Z hZ; have c := OK.out.n Z hZ; go_simp
      simp only [Act.put, List.setIfInBounds_toArray, List.set_cons_zero, List.set_cons_succ]
      refine takeL (i := 6) (oi := { dst := some 75, op := Go.Op.move (Go.Operand.tmp 0), type := 22, pos := "outright.go:77", after := #[], guard := none }) (v := .slice (some ⟨b, o, none⟩) len0 cap0) [12, 11, 10, 9, 8] rfl (by kernel_rfl) (by kernel_rfl) (by kernel_rfl) (by kernel_rfl) (fun _ _ _ h => calm_panic h) rfl ?_ q1 ?_
      · intro Z hZ; go_simp
      simp only [Act.put, List.setIfInBounds_toArray, List.set_cons_zero, List.set_cons_succ]
      refine takeL (i := 7) (oi := { dst := some 76, op := Go.Op.move (Go.Operand.tmp 10), type := 3, pos := "outright.go:77", after := #[], guard := none }) (v := .int .i64 (k : Int)) [12, 11, 10, 9, 8] rfl (by kernel_rfl) (by kernel_rfl) (by kernel_rfl) (by kernel_rfl) (fun _ _ _ h => calm_panic h) rfl ?_ q1 ?_
      · intro Z hZ; go_simp
      simp only [Act.put, List.setIfInBounds_toArray, List.set_cons_zero, List.set_cons_succ]
      refine takeL (i := 8) (oi := { dst := some 77, op := Go.Op.indexAddr 22 (Go.Operand.tmp 75) (Go.Operand.tmp 76), type := 0, pos := "outright.go:77", after := #[{ on := 6, ground := Go.Ground.data }, { on := 7, ground := Go.Ground.data }], guard := none }) (v := .pointer (some ⟨b, o + k * 7, none⟩)) [12, 11, 10, 9] rfl (by kernel_rfl) (by kernel_rfl) (by kernel_rfl) (by kernel_rfl) (fun _ _ _ h => calm_panic h) rfl ?_ q1 ?_
      · intro Z hZ; go_simp
      simp only [Act.put, List.setIfInBounds_toArray, List.set_cons_zero, List.set_cons_succ]
      refine takeL (i := 9) (oi := { dst := some 78, op := Go.Op.load 36 (Go.Operand.tmp 77), type := 36, pos := "outright.go:77", after := #[{ on := 8, ground := Go.Ground.data }], guard := none }) (v := .agg (opC x)) [12, 11, 10] rfl (by kernel_rfl) (by kernel_rfl) (by kernel_rfl) (by kernel_rfl) (fun _ _ _ h => calm_panic h) rfl ?_ q1 ?_
      · exact fun Z hZ => exec_load rfl rfl (OK.out.load Z hZ)
      simp only [Act.put, List.setIfInBounds_toArray, List.set_cons_zero, List.set_cons_succ]
      refine oneL (i := 10) (o := { dst := some 79, op := Go.Op.call { callee := Go.Callee.value (Go.Operand.func 27), args := #[Go.Operand.tmp 78], argTypes := #[36] }, type := 32, pos := "outright.go:77", after := #[{ on := 9, ground := Go.Ground.data }], guard := none }) rfl (by kernel_rfl) rfl ?_
      refine wp_by_call (f := 27) (args := #[.agg (opC x)]) (by go_simp) ((bytes_any x OK.out.is LE300.out wr.drew).mono ?_)
      rintro e Z1 ⟨g, hg, hlt, rfl, hP, hB⟩
      have hS1 := (S.out.next (Below.refl _ _).drew).next hB
      have hrow := RowF.new (S.out.next (Below.refl _ _).drew).dev.dev hg hlt hP
      refine ⟨_, rfl, fun _ => hS1.dev.below, ?_⟩
      simp only [Act.put, List.setIfInBounds_toArray, List.set_cons_zero, List.set_cons_succ]
      refine oneL (i := 11) (o := { dst := some 80, op := Go.Op.call { callee := Go.Callee.value (Go.Operand.func 19), args := #[Go.Operand.tmp 69, Go.Operand.tmp 74, Go.Operand.tmp 79], argTypes := #[24, 3, 32] }, type := 25, pos := "outright.go:77", after := #[{ on := 0, ground := Go.Ground.data }, { on := 5, ground := Go.Ground.data }, { on := 10, ground := Go.Ground.data }, { on := 10, ground := Go.Ground.chain }], guard := none }) rfl (by kernel_rfl) rfl ?_
      have hW := write_any q d Z1 hS1.dev.dev CA.out x.n (some ⟨g, 0, none⟩) (bytesN x) (bytesN x) (bytesL x) (row_bys hrow) (hrow.apart _ _)
      rw [hS1.dev.D] at hW
      refine wp_by_call (f := 19) (args := #[ptr D, .int .i64 x.n, .slice (some ⟨g, 0, none⟩) (bytesN x) (bytesN x)]) (by go_simp) (hW.mono ?_)
      clear hW
      rintro e Z2 ⟨rfl, q2, hd2, hS2⟩
      have hS3 := hS1.step hd2 hS2
      refine ⟨_, rfl, fun _ => hS3.dev.below, ?_⟩
      simp only [Act.put, List.setIfInBounds_toArray, List.set_cons_zero, List.set_cons_succ]
      refine oneL (i := 12) (o := { dst := some 81, op := Go.Op.binOp Go.BinOp.eql 25 (Go.Operand.tmp 80) (Go.Operand.const (Go.Value.int Go.IntKind.i64 122)) 25, type := 4, pos := "outright.go:77", after := #[{ on := 11, ground := Go.Ground.data }], guard := none }) rfl (by kernel_rfl) rfl ?_
      obtain ⟨y, hy⟩ : ∃ y, writeE d x.n (bytesL x).length = y := ⟨_, rfl⟩
      rw [hy]
      refine wp_by_run (w' := Z2) (v := .bool (y == 122)) (by go_simp) ⟨fun h => absurd rfl h, ?_⟩
      simp only [Act.put, List.setIfInBounds_toArray, List.set_cons_zero, List.set_cons_succ]
      have S3 := Lib.hid hS3
      clear hS3 hS1 hrow hd2 hS2 hB hP hlt hg q1
      refine doneL (by kernel_rfl) (Calm.normal ?_) _
      clear hy
      obtain ⟨d2, hd2⟩ : ∃ d2, d.write x.n (bytesL x) = d2 := ⟨_, rfl⟩
      rw [hd2] at S3 HU
      clear hd2
      by_cases y0 : y = 122
      · have e0 : (y == 122) = true := by simpa using y0
        have hF := flush_any q2 d2 Z2 S3.out.dev.dev (by have := HU.out.calls; have := HG.out.2.2.1; have := HK.out; omega)
        rw [S3.out.dev.D] at hF
        obtain ⟨hfe, hfu, hfc⟩ := HU.out.flush S3.out.dev.dev.ok
        rw [hfe] at hF
        have HF := Lib.hid hF
        have HFU := Lib.hid hfu
        clear y0 hF hfe hfu hfc
        go_wp2_with fail
        refine HF.out.mono ?_
        rintro e Z4 ⟨rfl, q4, hd, hS⟩
        have S4 := Lib.hid (S3.out.step hd hS)
        clear hd hS HF S3
        go_wp2
        refine ⟨⟨_, rfl, rfl, ⟨rfl, rfl, rfl, rfl, rfl, rfl⟩, _, rfl, ?rel⟩, ?measure⟩
        case rel => exact ⟨k + 1, q4, _, HK.out, by first | rfl | (show Value.int .i64 (wrap64 ((k : Int) + 1)) = _; rw [wk]), S4.out, ⟨HFU.out.up, HFU.out.num, HFU.out.len, by have := HFU.out.calls; omega⟩⟩
        case measure =>
          have hk2 := HK.out
          first
            | (show len0 - (intOf (.int .i64 (wrap64 ((k : Int) + 1)))).toNat < len0 - (intOf (.int .i64 (k : Int))).toNat; rw [wk])
            | (show len0 - (intOf (.int .i64 ((k + 1 : Nat) : Int))).toNat < len0 - (intOf (.int .i64 (k : Int))).toNat)
            | (show len0 - (intOf (.int .i64 ((k : Int) + 1))).toNat < len0 - (intOf (.int .i64 (k : Int))).toNat)
          first
            | (show len0 - ((k + 1 : Nat) : Int).toNat < len0 - ((k : Nat) : Int).toNat; omega)
            | (show len0 - ((k : Int) + 1).toNat < len0 - ((k : Nat) : Int).toNat; omega)
      · have e0 : (y == 122) = false := by simpa using y0
        clear y0
        go_wp2
        refine ⟨⟨_, rfl, rfl, ⟨rfl, rfl, rfl, rfl, rfl, rfl⟩, _, rfl, ?rel⟩, ?measure⟩
        case rel => exact ⟨k + 1, q2, _, HK.out, by first | rfl | (show Value.int .i64 (wrap64 ((k : Int) + 1)) = _; rw [wk]), S3.out, ⟨HU.out.up, HU.out.num, HU.out.len, by have := HU.out.calls; omega⟩⟩
        case measure =>
          have hk2 := HK.out
          first
            | (show len0 - (intOf (.int .i64 (wrap64 ((k : Int) + 1)))).toNat < len0 - (intOf (.int .i64 (k : Int))).toNat; rw [wk])
            | (show len0 - (intOf (.int .i64 ((k + 1 : Nat) : Int))).toNat < len0 - (intOf (.int .i64 (k : Int))).toNat)
            | (show len0 - (intOf (.int .i64 ((k : Int) + 1))).toNat < len0 - (intOf (.int .i64 (k : Int))).toNat)
          first
            | (show len0 - ((k + 1 : Nat) : Int).toNat < len0 - ((k : Nat) : Int).toNat; omega)
            | (show len0 - ((k : Int) + 1).toNat < len0 - ((k : Nat) : Int).toNat; omega)
    have hke : k = len0 := by omega
    have i1 : ¬ ((k : Int) < (len0 : Int)) := by omega
    obtain ⟨hfe, hfu, hfc⟩ := hU.flush hS.dev.dev.ok
    have hF := flush_any q d wr hS.dev.dev (by have := hU.calls; have := HG.out.2.2.1; omega)
    rw [hS.dev.D, hfe] at hF
    have S := Lib.hid hS
    have HF := Lib.hid hF
    have HFU := Lib.hid (show UpD d.flush 1000 ∧ d.flush.cache = [] from ⟨⟨hfu.up, hfu.num, hfu.len, by have := hfu.calls; have := HG.out.2.2.1; omega⟩, hfc⟩)
    clear hS hU hlt hk hke hfe hfu hfc hF
    go_wp2_with fail
    refine HF.out.mono ?_
    rintro e W1 ⟨rfl, q1, hd, hS⟩
    have S1 := Lib.hid (S.out.step hd hS)
    clear hd hS HF S i1
    obtain ⟨d1, hd1⟩ : ∃ d1, d.flush = d1 := ⟨_, rfl⟩
    rw [hd1] at S1 HFU
    clear hd1
    have hzs := (zero_of_info tab_zero_s).1
    have hza := (zero_of_info tab_zero_a).1
    obtain ⟨W2, hW2⟩ : ∃ W2, W2 = (W1.alloc (.cells (tab8 fun _ => .string ByteArray.empty) 64)).alloc (.cells (tab8 fun _ => .slice none 0 0) 66) := ⟨_, rfl⟩
    obtain ⟨A, hA⟩ : ∃ A, A = W1.heap.size := ⟨_, rfl⟩
    have S2 := Lib.hid (show St2 w D CB A (A + 1) (fun _ => ByteArray.empty) (fun _ => []) W2 q1 d1 from by
      have hb : Below W1.heap.size W1 W2 := by rw [hW2]; exact ((Below.refl _ W1).alloc (Nat.le_refl _) _).alloc (by simp) _
      refine ⟨S1.out.next hb, ?_, ⟨fun _ => .slice none 0 0, ?_⟩, by rw [hA]; exact S1.out.dev.le⟩
      · rw [hW2, hA]; exact (At.new _ W1 _).alloc _
      · have := AllAt.new (B := w.heap.size) (W1.alloc (.cells (tab8 fun _ => .string ByteArray.empty) 64)) (by rw [World.size_alloc]; have := S1.out.dev.le; omega)
        rw [World.size_alloc, ← hA, ← hW2] at this
        exact this)
    have HW2 := Lib.hid hW2
    have HAE := Lib.hid hA
    clear hW2 hA S1
    go_wp2_with fail
    rw [← HW2.out, ← HAE.out]
    clear hzs hza HW2 HAE
    refine wp_loop (fun a' w' => ∃ l : List Value, a' = ⟨l.toArray, []⟩ ∧ l.length = 257 ∧ (l.getD 0 undef = .slice a0 len0 cap0 ∧ l.getD 1 undef = .slice a1 len1 cap1 ∧ l.getD 5 undef = .pointer (some ⟨w.heap.size, 0, none⟩) ∧ l.getD 7 undef = .bool true ∧ l.getD 8 undef = ptr D ∧ l.getD 11 undef = .pointer (some ⟨A, 0, none⟩) ∧ l.getD 12 undef = .pointer (some ⟨A + 1, 0, none⟩)) ∧ ∃ i : Value, l.getD 88 undef = i ∧ (∃ (k : Nat), k ≤ 8 ∧ i = .int .i64 k ∧ St2 w D CB A (A + 1) (fun j => if j < k then strOfNums (d1.safe.getD j []) else ByteArray.empty) (fun j => if j < k then histS d1.safe [] j else []) w' q1 d1)) (fun a' w' => 8 - (intOf (a'.tmps.getD 88 undef)).toNat) ?_ ?_
    · refine ⟨_, rfl, rfl, ⟨rfl, rfl, rfl, rfl, rfl, rfl, rfl⟩, _, rfl, ?_⟩
      exact ⟨0, Nat.zero_le _, rfl, by simpa using S2.out⟩
    · rintro _ wr ⟨l, rfl, hl, ⟨g0, g1, g5, g7, g8, g11, g12⟩, i, v88, j, hk, hki, hS⟩
      obtain ⟨u, hu, hv⟩ : ∃ u : Nat → Value, (∀ i, l.getD i undef = u i) ∧ l = (List.range 257).map u := ⟨_, fun _ => rfl, frame_of hl⟩
      rw [hu] at g0 g1 g5 g7 g8 g11 g12 v88
      rw [hv, show (List.range 257).map u = [u 0, u 1, u 2, u 3, u 4, u 5, u 6, u 7, u 8, u 9, u 10, u 11, u 12, u 13, u 14, u 15, u 16, u 17, u 18, u 19, u 20, u 21, u 22, u 23, u 24, u 25, u 26, u 27, u 28, u 29, u 30, u 31, u 32, u 33, u 34, u 35, u 36, u 37, u 38, u 39, u 40, u 41, u 42, u 43, u 44, u 45, u 46, u 47, u 48, u 49, u 50, u 51, u 52, u 53, u 54, u 55, u 56, u 57, u 58, u 59, u 60, u 61, u 62, u 63, u 64, u 65, u 66, u 67, u 68, u 69, u 70, u 71, u 72, u 73, u 74, u 75, u 76, u 77, u 78, u 79, u 80, u 81, u 82, u 83, u 84, u 85, u 86, u 87, u 88, u 89, u 90, u 91, u 92, u 93, u 94, u 95, u 96, u 97, u 98, u 99, u 100, u 101, u 102, u 103, u 104, u 105, u 106, u 107, u 108, u 109, u 110, u 111, u 112, u 113, u 114, u 115, u 116, u 117, u 118, u 119, u 120, u 121, u 122, u 123, u 124, u 125, u 126, u 127, u 128, u 129, u 130, u 131, u 132, u 133, u 134, u 135, u 136, u 137, u 138, u 139, u 140, u 141, u 142, u 143, u 144, u 145, u 146, u 147, u 148, u 149, u 150, u 151, u 152, u 153, u 154, u 155, u 156, u 157, u 158, u 159, u 160, u 161, u 162, u 163, u 164, u 165, u 166, u 167, u 168, u 169, u 170, u 171, u 172, u 173, u 174, u 175, u 176, u 177, u 178, u 179, u 180, u 181, u 182, u 183, u 184, u 185, u 186, u 187, u 188, u 189, u 190, u 191, u 192, u 193, u 194, u 195, u 196, u 197, u 198, u 199, u 200, u 201, u 202, u 203, u 204, u 205, u 206, u 207, u 208, u 209, u 210, u 211, u 212, u 213, u 214, u 215, u 216, u 217, u 218, u 219, u 220, u 221, u 222, u 223, u 224, u 225, u 226, u 227, u 228, u 229, u 230, u 231, u 232, u 233, u 234, u 235, u 236, u 237, u 238, u 239, u 240, u 241, u 242, u 243, u 244, u 245, u 246, u 247, u 248, u 249, u 250, u 251, u 252, u 253, u 254, u 255, u 256] from rfl]
      rw [g0, g1, g5, g7, g8, g11, g12, v88]
      clear hu hv hl g0 g1 g5 g7 g8 g11 g12 v88 l
      rw [hki]
      clear hki i S2
      obtain ⟨k, hjk⟩ : ∃ k, j = k := ⟨_, rfl⟩
      rw [hjk] at hk hS ⊢
      clear hjk j
      by_cases hlt : k < 8
      case pos =>
        have i1 : (k : Int) < 8 := by omega
        have in0 : (0 : Int) ≤ (k : Int) := by omega
        have wk : wrap64 ((k : Int) + 1) = ((k + 1 : Nat) : Int) := by unfold wrap64; omega
        have hhas : HasN d1 (k : Int) := ⟨by omega, by rw [HFU.out.1.len]; omega⟩
        have hacc : accE d1 (k : Int) = 0 := by unfold accE; rw [HFU.out.1.up, if_neg (by simp), if_pos hhas]
        have hR := read_yes q1 d1 wr hS.st.dev.dev (k : Int) hacc
        rw [hS.st.dev.D, read_empty HFU.out.2] at hR
        have HR := Lib.hid hR
        have HSEC := Lib.hid (show (∀ y ∈ d1.at (k : Int), 0 ≤ y ∧ y < 256) ∧ d1.at (k : Int) = d1.safe.getD k [] from ⟨(secs_get hS.st.dev.dev.ok.secs (by have := HFU.out.1.len; omega)).2, rfl⟩)
        have S := Lib.hid hS
        have HK := Lib.hid hlt
        clear hS hlt hk hhas hacc hR
        go_wp2_with fail
        refine HR.out.mono ?_
        rintro e Z1 ⟨⟨g, hg, rfl, hat, hB⟩, hl⟩
        have cv := conv_bys (bys_at hat HSEC.out.1 128)
        rw [hl, HSEC.out.2] at cv
        obtain ⟨s, hs⟩ : ∃ s, strOfNums (d1.safe.getD k []) = s := ⟨_, rfl⟩
        rw [hs] at cv
        have hS1 := S.out.next hB
        have S1 := Lib.hid hS1
        have S2 := Lib.hid (hS1.setS HK.out s)
        have a1 : Z1.cell? ⟨A, k, none⟩ = some (.string (if k < k then strOfNums (d1.safe.getD k []) else ByteArray.empty)) := (hS1.str.cell k).trans (tab8_get _ k HK.out)
        rw [if_neg (Nat.lt_irrefl k)] at a1
        have f1 := hS1.str.free k
        have HSS := Lib.hid hs
        clear hg hat hB hl hS1 hs S HR
        go_wp2_with fail
        have HK8 := HK
        have HLEN := Lib.hid (show ((fun j => if j < k then histS d1.safe [] j else ([] : List ByteArray)) k).length ≤ 100000 by show (if k < k then _ else ([] : List ByteArray)).length ≤ _; rw [if_neg (Nat.lt_irrefl k)]; simp)
        obtain ⟨Z2, hZ2⟩ : ∃ Z, Z = Z1.setCell ⟨A, k, none⟩ (.string s) := ⟨_, rfl⟩
        rw [← hZ2] at S2 ⊢
        clear hZ2 cv a1 f1 S1
        obtain ⟨v, hv⟩ := S2.out.all
        obtain ⟨va, vc, hvk⟩ := hv.slice HK.out
        rw [if_neg (Nat.lt_irrefl k)] at hvk
        have q1' : (fun Z : World => Z.cell? ⟨A + 1, k, none⟩ = some (v k) ∧ Z.cell? ⟨A, k, none⟩ = some (.string s)) Z2.drew := ⟨(hv.at_.cell k).trans (tab8_get _ k HK.out), by
          have := (S2.out.str.cell k).trans (tab8_get _ k HK.out)
          rw [if_pos rfl] at this
          exact this⟩
        have HV := Lib.hid hv
        refine regionL (fun Z : World => Z.cell? ⟨A + 1, k, none⟩ = some (v k) ∧ Z.cell? ⟨A, k, none⟩ = some (.string s)) 10 (by kernel_rfl) ?_
        refine takeL (i := 0) (oi := { dst := some 103, op := Go.Op.move (Go.Operand.tmp 13), type := 3, pos := "outright.go:92", after := #[], guard := none }) (v := .int .i64 (k : Int)) [10, 9] rfl (by kernel_rfl) (by kernel_rfl) (by kernel_rfl) (by kernel_rfl) (fun _ _ _ h => calm_panic h) rfl ?_ q1' ?_
        · intro Z hZ; go_simp
        simp only [Act.put, List.setIfInBounds_toArray, List.set_cons_zero, List.set_cons_succ]
        refine takeL (i := 1) (oi := { dst := some 104, op := Go.Op.move (Go.Operand.tmp 13), type := 3, pos := "outright.go:92", after := #[], guard := none }) (v := .int .i64 (k : Int)) [10, 8, 3, 2] rfl (by kernel_rfl) (by kernel_rfl) (by kernel_rfl) (by kernel_rfl) (fun _ _ _ h => calm_panic h) rfl ?_ q1' ?_
        · intro Z hZ; go_simp
        simp only [Act.put, List.setIfInBounds_toArray, List.set_cons_zero, List.set_cons_succ]
        refine takeL (i := 2) (oi := { dst := some 105, op := Go.Op.indexAddr 66 (Go.Operand.tmp 12) (Go.Operand.tmp 104), type := 0, pos := "outright.go:92", after := #[{ on := 1, ground := Go.Ground.data }], guard := none }) (v := .pointer (some ⟨A + 1, k, none⟩)) [10, 8, 3] rfl (by kernel_rfl) (by kernel_rfl) (by kernel_rfl) (by kernel_rfl) (fun _ _ _ h => calm_panic h) rfl ?_ q1' ?_
        · intro Z hZ; go_simp
        simp only [Act.put, List.setIfInBounds_toArray, List.set_cons_zero, List.set_cons_succ]
        refine takeL (i := 3) (oi := { dst := some 106, op := Go.Op.load 65 (Go.Operand.tmp 105), type := 65, pos := "outright.go:92", after := #[{ on := 2, ground := Go.Ground.data }], guard := none }) (v := v k) [10, 8] rfl (by kernel_rfl) (by kernel_rfl) (by kernel_rfl) (by kernel_rfl) (fun _ _ _ h => calm_panic h) rfl ?_ q1' ?_
        · intro Z hZ; have c := hZ.1; go_simp
        simp only [Act.put, List.setIfInBounds_toArray, List.set_cons_zero, List.set_cons_succ]
        refine takeL (i := 4) (oi := { dst := some 107, op := Go.Op.move (Go.Operand.tmp 13), type := 3, pos := "outright.go:92", after := #[], guard := none }) (v := .int .i64 (k : Int)) [10, 8, 7, 6, 5] rfl (by kernel_rfl) (by kernel_rfl) (by kernel_rfl) (by kernel_rfl) (fun _ _ _ h => calm_panic h) rfl ?_ q1' ?_
        · intro Z hZ; go_simp
        simp only [Act.put, List.setIfInBounds_toArray, List.set_cons_zero, List.set_cons_succ]
        refine takeL (i := 5) (oi := { dst := some 108, op := Go.Op.indexAddr 64 (Go.Operand.tmp 11) (Go.Operand.tmp 107), type := 0, pos := "outright.go:92", after := #[{ on := 4, ground := Go.Ground.data }], guard := none }) (v := .pointer (some ⟨A, k, none⟩)) [10, 8, 7, 6] rfl (by kernel_rfl) (by kernel_rfl) (by kernel_rfl) (by kernel_rfl) (fun _ _ _ h => calm_panic h) rfl ?_ q1' ?_
        · intro Z hZ; go_simp
        simp only [Act.put, List.setIfInBounds_toArray, List.set_cons_zero, List.set_cons_succ]
        refine takeL (i := 6) (oi := { dst := some 109, op := Go.Op.load 9 (Go.Operand.tmp 108), type := 9, pos := "outright.go:92", after := #[{ on := 5, ground := Go.Ground.data }], guard := none }) (v := .string s) [10, 8, 7] rfl (by kernel_rfl) (by kernel_rfl) (by kernel_rfl) (by kernel_rfl) (fun _ _ _ h => calm_panic h) rfl ?_ q1' ?_
        · intro Z hZ; have c := hZ.2; go_simp
        simp only [Act.put, List.setIfInBounds_toArray, List.set_cons_zero, List.set_cons_succ]
        refine oneL (i := 7) (o := { dst := some 110, op := Go.Op.buildSlice 65 1 #[(0, Go.Operand.tmp 109)], type := 65, pos := "outright.go:92", after := #[{ on := 6, ground := Go.Ground.data }], guard := none }) rfl (by kernel_rfl) rfl ?_
        obtain ⟨Y, hY⟩ : ∃ Y, Y = Z2.drew.alloc (.cells #[.string s] 9) := ⟨_, rfl⟩
        have hBY : Below Z2.drew.heap.size Z2.drew Y := by rw [hY]; exact (Below.refl _ _).alloc (Nat.le_refl _) _
        have hgY : At 9 Y Z2.drew.heap.size #[.string s] := by rw [hY]; exact At.new _ _ _
        have SY := (S2.out.next (W' := Z2.drew) (Below.refl _ _).drew).next hBY
        have qY := (show Y.cell? ⟨A + 1, k, none⟩ = some (v k) ∧ Y.cell? ⟨A, k, none⟩ = some (.string s) from by rw [hY]; exact ⟨(World.cell?_alloc_lt _ _ _ (by show A + 1 < Z2.heap.size; exact HV.out.at_.lt)).trans q1'.1, (World.cell?_alloc_lt _ _ _ (by show A < Z2.heap.size; exact S2.out.str.lt)).trans q1'.2⟩)
        refine wp_by_run (w' := Y) (v := .slice (some ⟨Z2.drew.heap.size, 0, none⟩) 1 1) (by rw [hY]; go_simp) ⟨fun _ => qY, ?_⟩
        simp only [Act.put, List.setIfInBounds_toArray, List.set_cons_zero, List.set_cons_succ]
        have hvY : AllAt w.heap.size Y (A + 1) v _ := (HV.out.next (W' := Z2.drew) (Below.refl _ _).drew).next hBY
        obtain ⟨x', Z4, hr4, ho4, hg4, hb4⟩ := run_append_str Y 65 (v k) _ s (hvY.row k HK8.out) HLEN.out Z2.drew.heap.size hgY
        have hO4 : Upd (fun z => (v k).ownBlock = some z) Y Z4 := (Upd.refl _ Y).grown hg4 (fun r e => .inl e)
        have hpush := S2.out.push HV.out HK8.out (Y := Y) (X := Z4) (x := x') (s := s) ((Below.refl _ _).drew.trans hBY) hg4 ho4 (hb4.imp id (fun e => ⟨_, e, hBY.size⟩))
        have q4 := (show Z4.cell? ⟨A + 1, k, none⟩ = some (v k) ∧ Z4.cell? ⟨A, k, none⟩ = some (.string s) from ⟨(World.cell?_of_block (a := ⟨A + 1, k, none⟩) (hO4.block (A + 1) hvY.at_.lt (fun e => by
          obtain ⟨cs, hc⟩ := row_type (hvY.row k HK8.out) e
          have ha := hvY.at_
          unfold At at ha
          rw [ha] at hc
          simp at hc))).trans qY.1, (World.cell?_of_block (a := ⟨A, k, none⟩) (hO4.block A SY.str.lt (fun e => by
          obtain ⟨cs, hc⟩ := row_type (hvY.row k HK8.out) e
          have ha := SY.str
          unfold At at ha
          rw [ha] at hc
          simp at hc))).trans qY.2⟩)
        refine oneL (i := 8) (o := { dst := some 111, op := Go.Op.call { callee := Go.Callee.builtin Go.Builtin.append, args := #[Go.Operand.tmp 106, Go.Operand.tmp 110], argTypes := #[65, 65] }, type := 65, pos := "outright.go:92", after := #[{ on := 3, ground := Go.Ground.data }, { on := 7, ground := Go.Ground.data }], guard := none }) rfl (by kernel_rfl) rfl ?_
        refine wp_by_run (w' := Z4) (v := x') (exec_append rfl rfl rfl hr4) ⟨fun _ => q4, ?_⟩
        simp only [Act.put, List.setIfInBounds_toArray, List.set_cons_zero, List.set_cons_succ]
        refine takeL (i := 9) (oi := { dst := some 112, op := Go.Op.indexAddr 66 (Go.Operand.tmp 12) (Go.Operand.tmp 103), type := 0, pos := "outright.go:92", after := #[{ on := 0, ground := Go.Ground.data }, { on := 0, ground := Go.Ground.phase }, { on := 1, ground := Go.Ground.phase }, { on := 2, ground := Go.Ground.phase }, { on := 3, ground := Go.Ground.phase }, { on := 4, ground := Go.Ground.phase }, { on := 5, ground := Go.Ground.phase }, { on := 6, ground := Go.Ground.phase }, { on := 7, ground := Go.Ground.phase }, { on := 8, ground := Go.Ground.phase }], guard := none }) (v := .pointer (some ⟨A + 1, k, none⟩)) [10] rfl (by kernel_rfl) (by kernel_rfl) (by kernel_rfl) (by kernel_rfl) (fun _ _ _ h => calm_panic h) rfl ?_ q4 ?_
        · intro Z hZ; go_simp
        simp only [Act.put, List.setIfInBounds_toArray, List.set_cons_zero, List.set_cons_succ]
        have kk4 : Z4.cell? ⟨A + 1, k, none⟩ = some (v k) := q4.1
        have ff4 : Z4.frozen? ⟨A + 1, k, none⟩ = false := (hvY.at_.upd hO4 (fun e => by
          obtain ⟨cs, hc⟩ := row_type (hvY.row k HK8.out) e
          have ha := hvY.at_
          unfold At at ha
          rw [ha] at hc
          simp at hc)).free k
        obtain ⟨xa, xb, xc, hx'⟩ : ∃ xa xb xc, x' = .slice xa xb xc := by
          rcases ho4.2 with ⟨e, _⟩ | ⟨g, cap', cur, e, _⟩
          · exact ⟨_, _, _, e⟩
          · exact ⟨_, _, _, e⟩
        refine oneL (i := 10) (o := { dst := none, op := Go.Op.store 65 (Go.Operand.tmp 112) (Go.Operand.tmp 111), type := 0, pos := "outright.go:92", after := #[{ on := 9, ground := Go.Ground.data }, { on := 8, ground := Go.Ground.data }, { on := 8, ground := Go.Ground.chain }, { on := 0, ground := Go.Ground.phase }, { on := 1, ground := Go.Ground.phase }, { on := 2, ground := Go.Ground.phase }, { on := 3, ground := Go.Ground.phase }, { on := 4, ground := Go.Ground.phase }, { on := 5, ground := Go.Ground.phase }, { on := 6, ground := Go.Ground.phase }, { on := 7, ground := Go.Ground.phase }, { on := 8, ground := Go.Ground.phase }], guard := none }) rfl (by kernel_rfl) rfl ?_
        refine wp_by_skip (w' := Z4.setCell ⟨A + 1, k, none⟩ x') (exec_store rfl rfl rfl kk4 ff4 (by rw [hx']; rfl) (by kernel_rfl)) ⟨fun h => absurd rfl h, ?_⟩
        simp only [Act.put, List.setIfInBounds_toArray, List.set_cons_zero, List.set_cons_succ]
        have S5 := Lib.hid hpush
        clear hpush kk4 ff4 q4 qY q1' hr4 ho4 hg4 hb4 hO4 hvY hBY hgY SY hY
        refine doneL (by kernel_rfl) (Calm.normal ?_) _
        have S6 := Lib.hid (show St2 w D CB A (A + 1) (fun j => if j < k + 1 then strOfNums (d1.safe.getD j []) else ByteArray.empty) (fun j => if j < k + 1 then histS d1.safe [] j else []) _ q1 d1 from by
          have e1 : (fun j => if j = k then s else if j < k then strOfNums (d1.safe.getD j []) else ByteArray.empty) = (fun j => if j < k + 1 then strOfNums (d1.safe.getD j []) else ByteArray.empty) := by
            funext j
            by_cases h1 : j = k
            · rw [if_pos h1, if_pos (by omega), h1, HSS.out]
            · rw [if_neg h1]
              by_cases h2 : j < k
              · rw [if_pos h2, if_pos (by omega)]
              · rw [if_neg h2, if_neg (by omega)]
          have e2 : (fun i => if i = k then (if k < k then histS d1.safe [] k else []) ++ [s] else if i < k then histS d1.safe [] i else []) = (fun j => if j < k + 1 then histS d1.safe [] j else []) := by
            funext j
            by_cases h1 : j = k
            · rw [if_pos h1, if_neg (Nat.lt_irrefl k), h1, if_pos (Nat.lt_succ_self k), ← HSS.out]; rfl
            · rw [if_neg h1]
              by_cases h2 : j < k
              · rw [if_pos h2, if_pos (by omega)]
              · rw [if_neg h2, if_neg (by omega)]
          have h := S5.out
          rw [e1, e2] at h
          exact h)
        clear S5 S2 HV hvk
        go_wp2
        refine ⟨⟨k + 1, HK.out, by simp, by have h := S6.out; rw [hx'] at h; exact h⟩, ?measure⟩
        case measure =>
          have hk2 := HK.out
          first
            | (show 8 - (intOf (.int .i64 (wrap64 ((k : Int) + 1)))).toNat < 8 - (intOf (.int .i64 (k : Int))).toNat; rw [wk])
            | (show 8 - (intOf (.int .i64 ((k + 1 : Nat) : Int))).toNat < 8 - (intOf (.int .i64 (k : Int))).toNat)
            | (show 8 - (intOf (.int .i64 ((k : Int) + 1))).toNat < 8 - (intOf (.int .i64 (k : Int))).toNat)
          first
            | (show 8 - ((k + 1 : Nat) : Int).toNat < 8 - ((k : Nat) : Int).toNat; omega)
            | (show 8 - ((k : Int) + 1).toNat < 8 - ((k : Nat) : Int).toNat; omega)
      have hk8 : k = 8 := by omega
      have i1 : ¬ ((k : Int) < 8) := by omega
      have S := Lib.hid (show St2 w D CB A (A + 1) (SS d1.safe) (HS d1.safe []) wr q1 d1 from by rw [hk8] at hS; exact hS)
      clear hS hlt hk hk8
      go_wp2_with fail
      clear i1
      refine wp_loop (fun a' w' => ∃ l : List Value, a' = ⟨l.toArray, []⟩ ∧ l.length = 257 ∧ (l.getD 0 undef = .slice a0 len0 cap0 ∧ l.getD 1 undef = .slice a1 len1 cap1 ∧ l.getD 5 undef = .pointer (some ⟨w.heap.size, 0, none⟩) ∧ l.getD 7 undef = .bool true ∧ l.getD 8 undef = ptr D ∧ l.getD 11 undef = .pointer (some ⟨A, 0, none⟩) ∧ l.getD 12 undef = .pointer (some ⟨A + 1, 0, none⟩) ∧ l.getD 115 undef = .int .i64 (len1 : Int)) ∧ ∃ i : Value, l.getD 116 undef = i ∧ (∃ (k : Nat) (q : Pl) (d : Dv), k ≤ len1 ∧ i = .int .i64 k ∧ St2 w D CB A (A + 1) (SS d1.safe) (HS d1.safe d.cache) w' q d ∧ UpD d (1000 + k) ∧ d.safe = d1.safe ∧ d.cache.length ≤ k)) (fun a' w' => len1 - (intOf (a'.tmps.getD 116 undef)).toNat) ?_ ?_
      · refine ⟨_, rfl, rfl, ⟨rfl, rfl, rfl, rfl, rfl, rfl, rfl, rfl⟩, _, rfl, ?_⟩
        exact ⟨0, q1, d1, Nat.zero_le _, rfl, by rw [HFU.out.2]; exact S.out, HFU.out.1, rfl, by rw [HFU.out.2]; exact Nat.le_refl _⟩
      · rintro _ wr ⟨l, rfl, hl, ⟨g0, g1, g5, g7, g8, g11, g12, g115⟩, i, v116, j, q, d, hk, hki, hS, hU, hsf, hcl⟩
        obtain ⟨u, hu, hv⟩ : ∃ u : Nat → Value, (∀ i, l.getD i undef = u i) ∧ l = (List.range 257).map u := ⟨_, fun _ => rfl, frame_of hl⟩
        rw [hu] at g0 g1 g5 g7 g8 g11 g12 g115 v116
        rw [hv, show (List.range 257).map u = [u 0, u 1, u 2, u 3, u 4, u 5, u 6, u 7, u 8, u 9, u 10, u 11, u 12, u 13, u 14, u 15, u 16, u 17, u 18, u 19, u 20, u 21, u 22, u 23, u 24, u 25, u 26, u 27, u 28, u 29, u 30, u 31, u 32, u 33, u 34, u 35, u 36, u 37, u 38, u 39, u 40, u 41, u 42, u 43, u 44, u 45, u 46, u 47, u 48, u 49, u 50, u 51, u 52, u 53, u 54, u 55, u 56, u 57, u 58, u 59, u 60, u 61, u 62, u 63, u 64, u 65, u 66, u 67, u 68, u 69, u 70, u 71, u 72, u 73, u 74, u 75, u 76, u 77, u 78, u 79, u 80, u 81, u 82, u 83, u 84, u 85, u 86, u 87, u 88, u 89, u 90, u 91, u 92, u 93, u 94, u 95, u 96, u 97, u 98, u 99, u 100, u 101, u 102, u 103, u 104, u 105, u 106, u 107, u 108, u 109, u 110, u 111, u 112, u 113, u 114, u 115, u 116, u 117, u 118, u 119, u 120, u 121, u 122, u 123, u 124, u 125, u 126, u 127, u 128, u 129, u 130, u 131, u 132, u 133, u 134, u 135, u 136, u 137, u 138, u 139, u 140, u 141, u 142, u 143, u 144, u 145, u 146, u 147, u 148, u 149, u 150, u 151, u 152, u 153, u 154, u 155, u 156, u 157, u 158, u 159, u 160, u 161, u 162, u 163, u 164, u 165, u 166, u 167, u 168, u 169, u 170, u 171, u 172, u 173, u 174, u 175, u 176, u 177, u 178, u 179, u 180, u 181, u 182, u 183, u 184, u 185, u 186, u 187, u 188, u 189, u 190, u 191, u 192, u 193, u 194, u 195, u 196, u 197, u 198, u 199, u 200, u 201, u 202, u 203, u 204, u 205, u 206, u 207, u 208, u 209, u 210, u 211, u 212, u 213, u 214, u 215, u 216, u 217, u 218, u 219, u 220, u 221, u 222, u 223, u 224, u 225, u 226, u 227, u 228, u 229, u 230, u 231, u 232, u 233, u 234, u 235, u 236, u 237, u 238, u 239, u 240, u 241, u 242, u 243, u 244, u 245, u 246, u 247, u 248, u 249, u 250, u 251, u 252, u 253, u 254, u 255, u 256] from rfl]
        rw [g0, g1, g5, g7, g8, g11, g12, g115, v116]
        clear hu hv hl g0 g1 g5 g7 g8 g11 g12 g115 v116 l
        rw [hki]
        clear hki i S
        obtain ⟨k, hjk⟩ : ∃ k, j = k := ⟨_, rfl⟩
        rw [hjk] at hk hU hcl ⊢
        clear hjk j
        by_cases hlt : k < len1
        case pos =>
          have i1 : (k : Int) < len1 := by omega
          have in0 : (0 : Int) ≤ (k : Int) := by omega
          have wk : wrap64 ((k : Int) + 1) = ((k + 1 : Nat) : Int) := by have := HG.out.2.2.2; unfold wrap64; omega
          obtain ⟨b, o, hao, hop⟩ := HA.out.2.1.op hlt
          have LE300 := Lib.hid (HG.out.2.1.2 k hlt).2
          obtain ⟨x, hx⟩ : ∃ x, L1 k = x := ⟨_, rfl⟩
          rw [hx] at hop LE300
          rw [hao]
          have HAO := Lib.hid hao
          have OK := Lib.hid hop
          have BW := Lib.hid hS.st.dev.below
          have S := Lib.hid hS
          have CA := Lib.hid (show d.calls < 4611686018427387904 by have := hU.calls; have := HG.out.2.2.2; omega)
          have HK := Lib.hid hlt
          have HC := Lib.hid (And.intro hsf hcl)
          have HU := Lib.hid (hU.write hS.st.dev.dev.ok x.n (bytesL x))
          have HWO := Lib.hid (hU.write_ok hS.st.dev.dev.ok x.n (bytesL x))
          obtain ⟨v, hv⟩ := hS.all
          have HV := Lib.hid hv
          clear hop hS hU hlt hk hx hao hsf hcl hv
          go_wp2_with (refine load_any_op (OK.out.load _ BW.out) rfl rfl rfl ?_)
          refine (bytes_any x OK.out.is LE300.out wr).mono ?_
          rintro e Z1 ⟨g, hg, hlt, rfl, hP, hB⟩
          have S1 := Lib.hid (S.out.next hB)
          have HR1 := Lib.hid (RowF.new S.out.st.dev.dev hg hlt hP)
          have HV1 := Lib.hid (HV.out.next hB)
          have HGV := Lib.hid (show ∀ n, n < 8 → ∀ z, (v n).ownBlock = some z → z ≠ g from fun n hn z e => by have := ((HV.out.row n hn).lt z e).2; omega)
          have c1 := OK.out.n Z1 S1.out.st.dev.below
          have hW := write_any q d Z1 S1.out.st.dev.dev CA.out x.n (some ⟨g, 0, none⟩) (bytesN x) (bytesN x) (bytesL x) (row_bys HR1.out) (HR1.out.apart _ _)
          rw [S1.out.st.dev.D] at hW
          have HW := Lib.hid hW
          clear hg hlt hP hB HV S hW
          go_wp2_with fail
          refine HW.out.mono ?_
          rintro e Z2 ⟨rfl, q2, hd2, hS2⟩
          have S3 := Lib.hid (S1.out.step hd2 hS2)
          have HR3 := Lib.hid (HR1.out.step hS2)
          have HV3 := Lib.hid (HV1.out.step S1.out.st.dev.dev hS2)
          clear hd2 hS2 HW S1 HR1 HV1 c1
          rcases HWO.out with ⟨y0, hhas, h128, hsafe, hcache⟩ | ⟨y0, hd2⟩
          case inr =>
            rw [hd2] at S3 HU
            obtain ⟨y, hy⟩ : ∃ y, writeE d x.n (bytesL x).length = y := ⟨_, rfl⟩
            rw [hy] at y0 ⊢
            have e0 : (y == 0) = false := by simpa using y0
            clear HWO hd2 hy y0
            go_wp2
            refine ⟨⟨_, rfl, rfl, ⟨rfl, rfl, rfl, rfl, rfl, rfl, rfl, rfl⟩, _, rfl, ?rel⟩, ?measure⟩
            case rel => exact ⟨k + 1, q2, d, HK.out, by first | rfl | (show Value.int .i64 (wrap64 ((k : Int) + 1)) = _; rw [wk]), S3.out, ⟨HU.out.up, HU.out.num, HU.out.len, by have := HU.out.calls; omega⟩, HC.out.1, by have := HC.out.2; omega⟩
            case measure =>
              have hk2 := HK.out
              first
                | (show len1 - (intOf (.int .i64 (wrap64 ((k : Int) + 1)))).toNat < len1 - (intOf (.int .i64 (k : Int))).toNat; rw [wk])
                | (show len1 - (intOf (.int .i64 ((k + 1 : Nat) : Int))).toNat < len1 - (intOf (.int .i64 (k : Int))).toNat)
                | (show len1 - (intOf (.int .i64 ((k : Int) + 1))).toNat < len1 - (intOf (.int .i64 (k : Int))).toNat)
              first
                | (show len1 - ((k + 1 : Nat) : Int).toNat < len1 - ((k : Nat) : Int).toNat; omega)
                | (show len1 - ((k : Int) + 1).toNat < len1 - ((k : Nat) : Int).toNat; omega)
          rw [y0]
          obtain ⟨d2, hd2⟩ : ∃ d2, d.write x.n (bytesL x) = d2 := ⟨_, rfl⟩
          rw [hd2] at S3 HU hsafe hcache
          clear hd2 HWO y0
          obtain ⟨m, hm⟩ : ∃ m : Nat, x.n = (m : Int) := ⟨x.n.toNat, by have := hhas.1; omega⟩
          have hm8 : m < 8 := by have h1 := hhas.2; have h2 := HFU.out.1.len; rw [HC.out.1, h2] at h1; omega
          rw [hm] at hcache
          have HM := Lib.hid hm
          have HC2 := Lib.hid (And.intro hsafe hcache)
          have HK8 := Lib.hid hm8
          have im1 : (m : Int) < 8 := by omega
          have im0 : (0 : Int) ≤ (m : Int) := by omega
          have HLEN := Lib.hid (show (HS d1.safe d.cache m).length ≤ 100000 by rw [HS_at _ _ hm8]; have := histS_len d1.safe d.cache m; have := HC.out.2; have := HK.out; have := HG.out.2.2.2; omega)
          obtain ⟨s, hs⟩ : ∃ s, strOfNums (bytesL x) = s := ⟨_, rfl⟩
          have HSS := Lib.hid hs
          clear hm hm8 hsafe hcache hhas h128 hs
          go_wp2_with fail
          have q1' : (fun Z : World => Below w.heap.size w Z ∧ Z.cell? ⟨A + 1, m, none⟩ = some (v m) ∧ (convert 32 9 (.slice (some ⟨g, 0, none⟩) (bytesN x) (bytesN x))).run Try.prog Z = .ok (.string s) Z) Z2.drew := ⟨S3.out.st.dev.below.drew, (HV3.out.at_.cell m).trans (tab8_get _ m HK8.out), by rw [← HSS.out]; exact conv_bys (row_bys (HR3.out.next (W' := Z2.drew) (Below.refl _ _).drew))⟩
          obtain ⟨va, vc, hvk⟩ := HV3.out.slice HK8.out
          refine regionL (fun Z : World => Below w.heap.size w Z ∧ Z.cell? ⟨A + 1, m, none⟩ = some (v m) ∧ (convert 32 9 (.slice (some ⟨g, 0, none⟩) (bytesN x) (bytesN x))).run Try.prog Z = .ok (.string s) Z) 17 (by kernel_rfl) ?_
          refine takeL (i := 0) (oi := { dst := some 133, op := Go.Op.move (Go.Operand.tmp 1), type := 22, pos := "outright.go:97", after := #[], guard := none }) (v := .slice (some ⟨b, o, none⟩) len1 cap1) [17, 16, 4, 3, 2] rfl (by kernel_rfl) (by kernel_rfl) (by kernel_rfl) (by kernel_rfl) (fun _ _ _ h => calm_panic h) rfl ?_ q1' ?_
          · intro Z hZ; go_simp
          simp only [Act.put, List.setIfInBounds_toArray, List.set_cons_zero, List.set_cons_succ]
          refine takeL (i := 1) (oi := { dst := some 134, op := Go.Op.move (Go.Operand.tmp 16), type := 3, pos := "outright.go:97", after := #[], guard := none }) (v := .int .i64 (k : Int)) [17, 16, 4, 3, 2] rfl (by kernel_rfl) (by kernel_rfl) (by kernel_rfl) (by kernel_rfl) (fun _ _ _ h => calm_panic h) rfl ?_ q1' ?_
          · intro Z hZ; go_simp
          simp only [Act.put, List.setIfInBounds_toArray, List.set_cons_zero, List.set_cons_succ]
          refine takeL (i := 2) (oi := { dst := some 135, op := Go.Op.indexAddr 22 (Go.Operand.tmp 133) (Go.Operand.tmp 134), type := 0, pos := "outright.go:97", after := #[{ on := 0, ground := Go.Ground.data }, { on := 1, ground := Go.Ground.data }], guard := none }) (v := .pointer (some ⟨b, o + k * 7, none⟩)) [17, 16, 4, 3] rfl (by kernel_rfl) (by kernel_rfl) (by kernel_rfl) (by kernel_rfl) (fun _ _ _ h => calm_panic h) rfl ?_ q1' ?_
          · intro Z hZ; go_simp
          simp only [Act.put, List.setIfInBounds_toArray, List.set_cons_zero, List.set_cons_succ]
          refine takeL (i := 3) (oi := { dst := some 136, op := Go.Op.fieldAddr 36 (Go.Operand.tmp 135) 1, type := 0, pos := "outright.go:97", after := #[{ on := 2, ground := Go.Ground.data }], guard := none }) (v := .pointer (some ⟨b, o + k * 7 + 1, none⟩)) [17, 16, 4] rfl (by kernel_rfl) (by kernel_rfl) (by kernel_rfl) (by kernel_rfl) (fun _ _ _ h => calm_panic h) rfl ?_ q1' ?_
          · intro Z hZ; go_simp
          simp only [Act.put, List.setIfInBounds_toArray, List.set_cons_zero, List.set_cons_succ]
          refine takeL (i := 4) (oi := { dst := some 137, op := Go.Op.load 3 (Go.Operand.tmp 136), type := 3, pos := "outright.go:97", after := #[{ on := 3, ground := Go.Ground.data }], guard := none }) (v := .int .i64 (m : Int)) [17, 16] rfl (by kernel_rfl) (by kernel_rfl) (by kernel_rfl) (by kernel_rfl) (fun _ _ _ h => calm_panic h) rfl ?_ q1' ?_
          · intro Z hZ; have c := OK.out.n Z hZ.1; rw [HM.out] at c; go_simp
          simp only [Act.put, List.setIfInBounds_toArray, List.set_cons_zero, List.set_cons_succ]
          refine takeL (i := 5) (oi := { dst := some 138, op := Go.Op.move (Go.Operand.tmp 1), type := 22, pos := "outright.go:97", after := #[], guard := none }) (v := .slice (some ⟨b, o, none⟩) len1 cap1) [17, 15, 11, 10, 9, 8, 7] rfl (by kernel_rfl) (by kernel_rfl) (by kernel_rfl) (by kernel_rfl) (fun _ _ _ h => calm_panic h) rfl ?_ q1' ?_
          · intro Z hZ; go_simp
          simp only [Act.put, List.setIfInBounds_toArray, List.set_cons_zero, List.set_cons_succ]
          refine takeL (i := 6) (oi := { dst := some 139, op := Go.Op.move (Go.Operand.tmp 16), type := 3, pos := "outright.go:97", after := #[], guard := none }) (v := .int .i64 (k : Int)) [17, 15, 11, 10, 9, 8, 7] rfl (by kernel_rfl) (by kernel_rfl) (by kernel_rfl) (by kernel_rfl) (fun _ _ _ h => calm_panic h) rfl ?_ q1' ?_
          · intro Z hZ; go_simp
          simp only [Act.put, List.setIfInBounds_toArray, List.set_cons_zero, List.set_cons_succ]
          refine takeL (i := 7) (oi := { dst := some 140, op := Go.Op.indexAddr 22 (Go.Operand.tmp 138) (Go.Operand.tmp 139), type := 0, pos := "outright.go:97", after := #[{ on := 5, ground := Go.Ground.data }, { on := 6, ground := Go.Ground.data }], guard := none }) (v := .pointer (some ⟨b, o + k * 7, none⟩)) [17, 15, 11, 10, 9, 8] rfl (by kernel_rfl) (by kernel_rfl) (by kernel_rfl) (by kernel_rfl) (fun _ _ _ h => calm_panic h) rfl ?_ q1' ?_
          · intro Z hZ; go_simp
          simp only [Act.put, List.setIfInBounds_toArray, List.set_cons_zero, List.set_cons_succ]
          refine takeL (i := 8) (oi := { dst := some 141, op := Go.Op.fieldAddr 36 (Go.Operand.tmp 140) 1, type := 0, pos := "outright.go:97", after := #[{ on := 7, ground := Go.Ground.data }], guard := none }) (v := .pointer (some ⟨b, o + k * 7 + 1, none⟩)) [17, 15, 11, 10, 9] rfl (by kernel_rfl) (by kernel_rfl) (by kernel_rfl) (by kernel_rfl) (fun _ _ _ h => calm_panic h) rfl ?_ q1' ?_
          · intro Z hZ; go_simp
          simp only [Act.put, List.setIfInBounds_toArray, List.set_cons_zero, List.set_cons_succ]
          refine takeL (i := 9) (oi := { dst := some 142, op := Go.Op.load 3 (Go.Operand.tmp 141), type := 3, pos := "outright.go:97", after := #[{ on := 8, ground := Go.Ground.data }], guard := none }) (v := .int .i64 (m : Int)) [17, 15, 11, 10] rfl (by kernel_rfl) (by kernel_rfl) (by kernel_rfl) (by kernel_rfl) (fun _ _ _ h => calm_panic h) rfl ?_ q1' ?_
          · intro Z hZ; have c := OK.out.n Z hZ.1; rw [HM.out] at c; go_simp
          simp only [Act.put, List.setIfInBounds_toArray, List.set_cons_zero, List.set_cons_succ]
          refine takeL (i := 10) (oi := { dst := some 143, op := Go.Op.indexAddr 66 (Go.Operand.tmp 12) (Go.Operand.tmp 142), type := 0, pos := "outright.go:97", after := #[{ on := 9, ground := Go.Ground.data }], guard := none }) (v := .pointer (some ⟨A + 1, m, none⟩)) [17, 15, 11] rfl (by kernel_rfl) (by kernel_rfl) (by kernel_rfl) (by kernel_rfl) (fun _ _ _ h => calm_panic h) rfl ?_ q1' ?_
          · intro Z hZ; go_simp
          simp only [Act.put, List.setIfInBounds_toArray, List.set_cons_zero, List.set_cons_succ]
          refine takeL (i := 11) (oi := { dst := some 144, op := Go.Op.load 65 (Go.Operand.tmp 143), type := 65, pos := "outright.go:97", after := #[{ on := 10, ground := Go.Ground.data }], guard := none }) (v := v m) [17, 15] rfl (by kernel_rfl) (by kernel_rfl) (by kernel_rfl) (by kernel_rfl) (fun _ _ _ h => calm_panic h) rfl ?_ q1' ?_
          · intro Z hZ; have c := hZ.2.1; go_simp
          simp only [Act.put, List.setIfInBounds_toArray, List.set_cons_zero, List.set_cons_succ]
          refine takeL (i := 12) (oi := { dst := some 145, op := Go.Op.move (Go.Operand.tmp 17), type := 32, pos := "outright.go:97", after := #[], guard := none }) (v := .slice (some ⟨g, 0, none⟩) (bytesN x) (bytesN x)) [17, 15, 14, 13] rfl (by kernel_rfl) (by kernel_rfl) (by kernel_rfl) (by kernel_rfl) (fun _ _ _ h => calm_panic h) rfl ?_ q1' ?_
          · intro Z hZ; go_simp
          simp only [Act.put, List.setIfInBounds_toArray, List.set_cons_zero, List.set_cons_succ]
          refine takeL (i := 13) (oi := { dst := some 146, op := Go.Op.convert 32 9 (Go.Operand.tmp 145), type := 9, pos := "outright.go:97", after := #[{ on := 12, ground := Go.Ground.data }], guard := none }) (v := .string s) [17, 15, 14] rfl (by kernel_rfl) (by kernel_rfl) (by kernel_rfl) (by kernel_rfl) (fun _ _ _ h => calm_panic h) rfl ?_ q1' ?_
          · exact fun Z hZ => exec_conv rfl rfl hZ.2.2
          simp only [Act.put, List.setIfInBounds_toArray, List.set_cons_zero, List.set_cons_succ]
          refine oneL (i := 14) (o := { dst := some 147, op := Go.Op.buildSlice 65 1 #[(0, Go.Operand.tmp 146)], type := 65, pos := "outright.go:97", after := #[{ on := 13, ground := Go.Ground.data }], guard := none }) rfl (by kernel_rfl) rfl ?_
          obtain ⟨Y, hY⟩ : ∃ Y, Y = Z2.drew.alloc (.cells #[.string s] 9) := ⟨_, rfl⟩
          have hBY : Below Z2.drew.heap.size Z2.drew Y := by rw [hY]; exact (Below.refl _ _).alloc (Nat.le_refl _) _
          have hgY : At 9 Y Z2.drew.heap.size #[.string s] := by rw [hY]; exact At.new _ _ _
          have SY := (S3.out.next (W' := Z2.drew) (Below.refl _ _).drew).next hBY
          have qY := (show (fun Z : World => Below w.heap.size w Z ∧ Z.cell? ⟨A + 1, m, none⟩ = some (v m) ∧ (convert 32 9 (.slice (some ⟨g, 0, none⟩) (bytesN x) (bytesN x))).run Try.prog Z = .ok (.string s) Z) Y from ⟨SY.st.dev.below, by rw [hY]; exact (World.cell?_alloc_lt _ _ _ (by show A + 1 < Z2.heap.size; exact HV3.out.at_.lt)).trans ((HV3.out.at_.cell m).trans (tab8_get _ m HK8.out)), by rw [← HSS.out]; exact conv_bys (row_bys ((HR3.out.next (W' := Z2.drew) (Below.refl _ _).drew).next hBY))⟩)
          refine wp_by_run (w' := Y) (v := .slice (some ⟨Z2.drew.heap.size, 0, none⟩) 1 1) (by rw [hY]; go_simp) ⟨fun _ => qY, ?_⟩
          simp only [Act.put, List.setIfInBounds_toArray, List.set_cons_zero, List.set_cons_succ]
          have hvY : AllAt w.heap.size Y (A + 1) v _ := (HV3.out.next (W' := Z2.drew) (Below.refl _ _).drew).next hBY
          obtain ⟨x', Z4, hr4, ho4, hg4, hb4⟩ := run_append_str Y 65 (v m) _ s (hvY.row m HK8.out) HLEN.out Z2.drew.heap.size hgY
          have hO4 : Upd (fun z => (v m).ownBlock = some z) Y Z4 := (Upd.refl _ Y).grown hg4 (fun r e => .inl e)
          have hpush := S3.out.push HV3.out HK8.out (Y := Y) (X := Z4) (x := x') (s := s) ((Below.refl _ _).drew.trans hBY) hg4 ho4 (hb4.imp id (fun e => ⟨_, e, hBY.size⟩))
          have q4 := (show (fun Z : World => Below w.heap.size w Z ∧ Z.cell? ⟨A + 1, m, none⟩ = some (v m) ∧ (convert 32 9 (.slice (some ⟨g, 0, none⟩) (bytesN x) (bytesN x))).run Try.prog Z = .ok (.string s) Z) Z4 from ⟨SY.st.dev.below.trans (hO4.below (fun j e => HV3.out.fresh.2 m HK8.out j e) SY.st.dev.le), ((hvY.at_.upd hO4 (fun e => by
            obtain ⟨cs, hc⟩ := row_type (hvY.row m HK8.out) e
            have ha := hvY.at_
            unfold At at ha
            rw [ha] at hc
            simp at hc)).cell m).trans (tab8_get _ m HK8.out), by
            have hr := (HR3.out.next (W' := Z2.drew) (Below.refl _ _).drew).next hBY
            rw [← HSS.out]
            exact conv_bys ((hr.2.block (hO4.block g hr.1.1 (fun e => HGV.out m HK8.out g e rfl))).bys (fun j _ => bytesF_in x j) (Nat.lt_of_lt_of_le hr.1.1 hO4.size) _)⟩)
          refine oneL (i := 15) (o := { dst := some 148, op := Go.Op.call { callee := Go.Callee.builtin Go.Builtin.append, args := #[Go.Operand.tmp 144, Go.Operand.tmp 147], argTypes := #[65, 65] }, type := 65, pos := "outright.go:97", after := #[{ on := 11, ground := Go.Ground.data }, { on := 14, ground := Go.Ground.data }], guard := none }) rfl (by kernel_rfl) rfl ?_
          refine wp_by_run (w' := Z4) (v := x') (exec_append rfl rfl rfl hr4) ⟨fun _ => q4, ?_⟩
          simp only [Act.put, List.setIfInBounds_toArray, List.set_cons_zero, List.set_cons_succ]
          refine takeL (i := 16) (oi := { dst := some 149, op := Go.Op.indexAddr 66 (Go.Operand.tmp 12) (Go.Operand.tmp 137), type := 0, pos := "outright.go:97", after := #[{ on := 4, ground := Go.Ground.data }, { on := 0, ground := Go.Ground.phase }, { on := 1, ground := Go.Ground.phase }, { on := 2, ground := Go.Ground.phase }, { on := 3, ground := Go.Ground.phase }, { on := 4, ground := Go.Ground.phase }, { on := 5, ground := Go.Ground.phase }, { on := 6, ground := Go.Ground.phase }, { on := 7, ground := Go.Ground.phase }, { on := 8, ground := Go.Ground.phase }, { on := 9, ground := Go.Ground.phase }, { on := 10, ground := Go.Ground.phase }, { on := 11, ground := Go.Ground.phase }, { on := 12, ground := Go.Ground.phase }, { on := 13, ground := Go.Ground.phase }, { on := 14, ground := Go.Ground.phase }, { on := 15, ground := Go.Ground.phase }], guard := none }) (v := .pointer (some ⟨A + 1, m, none⟩)) [17] rfl (by kernel_rfl) (by kernel_rfl) (by kernel_rfl) (by kernel_rfl) (fun _ _ _ h => calm_panic h) rfl ?_ q4 ?_
          · intro Z hZ; go_simp
          simp only [Act.put, List.setIfInBounds_toArray, List.set_cons_zero, List.set_cons_succ]
          have kk4 : Z4.cell? ⟨A + 1, m, none⟩ = some (v m) := q4.2.1
          have ff4 : Z4.frozen? ⟨A + 1, m, none⟩ = false := (hvY.at_.upd hO4 (fun e => by
            obtain ⟨cs, hc⟩ := row_type (hvY.row m HK8.out) e
            have ha := hvY.at_
            unfold At at ha
            rw [ha] at hc
            simp at hc)).free m
          obtain ⟨xa, xb, xc, hx'⟩ : ∃ xa xb xc, x' = .slice xa xb xc := by
            rcases ho4.2 with ⟨e, _⟩ | ⟨g, cap', cur, e, _⟩
            · exact ⟨_, _, _, e⟩
            · exact ⟨_, _, _, e⟩
          refine oneL (i := 17) (o := { dst := none, op := Go.Op.store 65 (Go.Operand.tmp 149) (Go.Operand.tmp 148), type := 0, pos := "outright.go:97", after := #[{ on := 16, ground := Go.Ground.data }, { on := 15, ground := Go.Ground.data }, { on := 15, ground := Go.Ground.chain }, { on := 0, ground := Go.Ground.phase }, { on := 1, ground := Go.Ground.phase }, { on := 2, ground := Go.Ground.phase }, { on := 3, ground := Go.Ground.phase }, { on := 4, ground := Go.Ground.phase }, { on := 5, ground := Go.Ground.phase }, { on := 6, ground := Go.Ground.phase }, { on := 7, ground := Go.Ground.phase }, { on := 8, ground := Go.Ground.phase }, { on := 9, ground := Go.Ground.phase }, { on := 10, ground := Go.Ground.phase }, { on := 11, ground := Go.Ground.phase }, { on := 12, ground := Go.Ground.phase }, { on := 13, ground := Go.Ground.phase }, { on := 14, ground := Go.Ground.phase }, { on := 15, ground := Go.Ground.phase }], guard := none }) rfl (by kernel_rfl) rfl ?_
          refine wp_by_skip (w' := Z4.setCell ⟨A + 1, m, none⟩ x') (exec_store rfl rfl rfl kk4 ff4 (by rw [hx']; rfl) (by kernel_rfl)) ⟨fun h => absurd rfl h, ?_⟩
          simp only [Act.put, List.setIfInBounds_toArray, List.set_cons_zero, List.set_cons_succ]
          have S5 := Lib.hid hpush
          clear hpush kk4 ff4 q4 qY q1' hr4 ho4 hg4 hb4 hO4 hvY hBY hgY SY hY
          refine doneL (by kernel_rfl) (Calm.normal ?_) _
          have S6 := Lib.hid (show St2 w D CB A (A + 1) (SS d1.safe) (HS d1.safe d2.cache) _ q2 d2 from by
            have h := S5.out
            rw [← HSS.out, HS_snoc _ _ HK8.out, ← HC2.out.2] at h
            exact h)
          clear S5 S3 HV3 hvk hx' im1 im0
          go_wp2
          refine ⟨⟨_, rfl, rfl, ⟨rfl, rfl, rfl, rfl, rfl, rfl, rfl, rfl⟩, _, rfl, ?rel⟩, ?measure⟩
          case rel => exact ⟨k + 1, q2, d2, HK.out, by first | rfl | (show Value.int .i64 (wrap64 ((k : Int) + 1)) = _; rw [wk]), S6.out, ⟨HU.out.up, HU.out.num, HU.out.len, by have := HU.out.calls; omega⟩, HC2.out.1.trans HC.out.1, by rw [HC2.out.2, List.length_append]; have := HC.out.2; simp; omega⟩
          case measure =>
            have hk2 := HK.out
            first
              | (show len1 - (intOf (.int .i64 (wrap64 ((k : Int) + 1)))).toNat < len1 - (intOf (.int .i64 (k : Int))).toNat; rw [wk])
              | (show len1 - (intOf (.int .i64 ((k + 1 : Nat) : Int))).toNat < len1 - (intOf (.int .i64 (k : Int))).toNat)
              | (show len1 - (intOf (.int .i64 ((k : Int) + 1))).toNat < len1 - (intOf (.int .i64 (k : Int))).toNat)
            first
              | (show len1 - ((k + 1 : Nat) : Int).toNat < len1 - ((k : Nat) : Int).toNat; omega)
              | (show len1 - ((k : Int) + 1).toNat < len1 - ((k : Nat) : Int).toNat; omega)
        have hke : k = len1 := by omega
        have i1 : ¬ ((k : Int) < (len1 : Int)) := by omega
        have HD := Lib.hid (show UpD d 1200 ∧ d.safe = d1.safe ∧ d.cache.length ≤ 200 from ⟨⟨hU.up, hU.num, hU.len, by have := hU.calls; have := HG.out.2.2.2; omega⟩, hsf, by have := HG.out.2.2.2; omega⟩)
        have DOK := Lib.hid hS.st.dev.dev.ok
        have D8 := Lib.hid HFU.out.1.len
        have HDL := Lib.hid (show d.cache.length ≤ 200 by have := HG.out.2.2.2; omega)
        have S := Lib.hid hS
        have HCP := Lib.hid (copy_any q d wr hS.st.dev.dev)
        rw [hS.st.dev.D] at HCP
        clear hS hU hlt hk hke hsf hcl HFU
        go_wp2_with fail
        clear i1
        refine HCP.out.mono ?_
        rintro e W3 ⟨p', rfl, hd', hown', hB⟩
        have S1 := Lib.hid (S.out.next hB)
        obtain ⟨D', hD'⟩ : ∃ D', p'.D = D' := ⟨_, rfl⟩
        have S3 := Lib.hid (show St3 w D D' CB A (A + 1) (SS d1.safe) (HS d1.safe d.cache) W3 q p' d d from ⟨S1.out, ⟨hd', fun k hk => Nat.le_trans S.out.st.dev.le (hown' k hk), S1.out.st.dev.below, hD', S1.out.st.dev.le⟩, fun k hk hk' => by have := hown' k hk; have := S.out.st.dev.dev.lt k hk'; omega⟩)
        rw [hD']
        have HPA := Lib.hid (pull_any q d W3 S3.out.one.st.dev.dev)
        rw [S3.out.one.st.dev.D] at HPA
        clear hd' hown' hB S S1 HCP hD'
        go_wp2_with fail
        refine HPA.out.mono ?_
        rintro e W4 ⟨rfl, hd4, hS4⟩
        have S4 := Lib.hid (S3.out.fst hd4 hS4)
        have HPB := Lib.hid (pull_any p' d W4 S4.out.two.dev)
        rw [S4.out.two.D] at HPB
        clear hd4 hS4 HPA S3
        go_wp2_with fail
        refine HPB.out.mono ?_
        rintro e W5 ⟨rfl, hd5, hS5⟩
        have S5 := Lib.hid (S4.out.snd hd5 hS5)
        clear hd5 hS5 HPB S4
        go_wp2_with fail
        have hlF : w.heap.size ≤ W5.heap.size := S5.out.one.st.dev.le
        obtain ⟨F, hF⟩ : ∃ F, W5.heap.size = F := ⟨_, rfl⟩
        have R0 := Lib.hid (show At 34 (W5.alloc (.cells #[.slice none 0 0, .int .i64 (-1), .int .i64 0] 34)) F #[.slice none ((0 : Nat)) 0, .int .i64 (-1), .int .i64 0] ∧ Own8 (F + 1) (W5.alloc (.cells #[.slice none 0 0, .int .i64 (-1), .int .i64 0] 34)) (.slice none ((0 : Nat)) 0) (List.replicate 0 255) ∧ Below F W5 (W5.alloc (.cells #[.slice none 0 0, .int .i64 (-1), .int .i64 0] 34)) from by
          rw [← hF]
          exact ⟨At.new _ W5 _, Own8.nil _ _, (Below.refl _ W5).alloc (Nat.le_refl _) _⟩)
        rw [hF]
        have HF := Lib.hid hF
        clear hF hlF
        refine wp_loop (fun a' w' => ∃ l : List Value, a' = ⟨l.toArray, []⟩ ∧ l.length = 257 ∧ (l.getD 0 undef = .slice a0 len0 cap0 ∧ l.getD 1 undef = .slice a1 len1 cap1 ∧ l.getD 5 undef = .pointer (some ⟨w.heap.size, 0, none⟩) ∧ l.getD 7 undef = .bool true ∧ l.getD 8 undef = ptr D ∧ l.getD 11 undef = .pointer (some ⟨A, 0, none⟩) ∧ l.getD 12 undef = .pointer (some ⟨A + 1, 0, none⟩) ∧ l.getD 18 undef = ptr D' ∧ l.getD 19 undef = .pointer (some ⟨F, 0, none⟩)) ∧ ∃ i : Value, l.getD 158 undef = i ∧ (∃ (k : Nat) (a : Option Addr) (c : Nat), k ≤ 40 ∧ i = .int .i64 k ∧ At 34 w' F #[.slice a k c, .int .i64 (-1), .int .i64 0] ∧ Own8 (F + 1) w' (.slice a k c) (List.replicate k 255) ∧ Below F W5 w')) (fun a' w' => 40 - (intOf (a'.tmps.getD 158 undef)).toNat) ?_ ?_
        · refine ⟨_, rfl, rfl, ⟨rfl, rfl, rfl, rfl, rfl, rfl, rfl, rfl, rfl⟩, _, rfl, ?_⟩
          exact ⟨0, none, 0, Nat.zero_le _, rfl, R0.out⟩
        · rintro _ wr ⟨l, rfl, hl, ⟨g0, g1, g5, g7, g8, g11, g12, g18, g19⟩, i, v158, j, a, c, hk, hki, hat, hO, hBw⟩
          obtain ⟨u, hu, hv⟩ : ∃ u : Nat → Value, (∀ i, l.getD i undef = u i) ∧ l = (List.range 257).map u := ⟨_, fun _ => rfl, frame_of hl⟩
          rw [hu] at g0 g1 g5 g7 g8 g11 g12 g18 g19 v158
          rw [hv, show (List.range 257).map u = [u 0, u 1, u 2, u 3, u 4, u 5, u 6, u 7, u 8, u 9, u 10, u 11, u 12, u 13, u 14, u 15, u 16, u 17, u 18, u 19, u 20, u 21, u 22, u 23, u 24, u 25, u 26, u 27, u 28, u 29, u 30, u 31, u 32, u 33, u 34, u 35, u 36, u 37, u 38, u 39, u 40, u 41, u 42, u 43, u 44, u 45, u 46, u 47, u 48, u 49, u 50, u 51, u 52, u 53, u 54, u 55, u 56, u 57, u 58, u 59, u 60, u 61, u 62, u 63, u 64, u 65, u 66, u 67, u 68, u 69, u 70, u 71, u 72, u 73, u 74, u 75, u 76, u 77, u 78, u 79, u 80, u 81, u 82, u 83, u 84, u 85, u 86, u 87, u 88, u 89, u 90, u 91, u 92, u 93, u 94, u 95, u 96, u 97, u 98, u 99, u 100, u 101, u 102, u 103, u 104, u 105, u 106, u 107, u 108, u 109, u 110, u 111, u 112, u 113, u 114, u 115, u 116, u 117, u 118, u 119, u 120, u 121, u 122, u 123, u 124, u 125, u 126, u 127, u 128, u 129, u 130, u 131, u 132, u 133, u 134, u 135, u 136, u 137, u 138, u 139, u 140, u 141, u 142, u 143, u 144, u 145, u 146, u 147, u 148, u 149, u 150, u 151, u 152, u 153, u 154, u 155, u 156, u 157, u 158, u 159, u 160, u 161, u 162, u 163, u 164, u 165, u 166, u 167, u 168, u 169, u 170, u 171, u 172, u 173, u 174, u 175, u 176, u 177, u 178, u 179, u 180, u 181, u 182, u 183, u 184, u 185, u 186, u 187, u 188, u 189, u 190, u 191, u 192, u 193, u 194, u 195, u 196, u 197, u 198, u 199, u 200, u 201, u 202, u 203, u 204, u 205, u 206, u 207, u 208, u 209, u 210, u 211, u 212, u 213, u 214, u 215, u 216, u 217, u 218, u 219, u 220, u 221, u 222, u 223, u 224, u 225, u 226, u 227, u 228, u 229, u 230, u 231, u 232, u 233, u 234, u 235, u 236, u 237, u 238, u 239, u 240, u 241, u 242, u 243, u 244, u 245, u 246, u 247, u 248, u 249, u 250, u 251, u 252, u 253, u 254, u 255, u 256] from rfl]
          rw [g0, g1, g5, g7, g8, g11, g12, g18, g19, v158]
          clear hu hv hl g0 g1 g5 g7 g8 g11 g12 g18 g19 v158 l
          rw [hki]
          clear hki i R0
          obtain ⟨k, hjk⟩ : ∃ k, j = k := ⟨_, rfl⟩
          rw [hjk] at hk hat hO ⊢
          clear hjk j
          by_cases hlt : k < 40
          case pos =>
            have i1 : (k : Int) < 40 := by omega
            have in0 : (0 : Int) ≤ (k : Int) := by omega
            have wk : wrap64 ((k : Int) + 1) = ((k + 1 : Nat) : Int) := by unfold wrap64; omega
            have hal : Below wr.heap.size wr (wr.alloc (.cells #[.int .u8 255] 5)) := (Below.refl _ wr).alloc (Nat.le_refl _) _
            have hOa := hO.below hal (Nat.le_refl _)
            have hb1 := bys8_alloc (T := 5) wr [255] (by simp) #[.int .u8 255] rfl 1 1 rfl (0, 0)
            have hs1 : F + 1 ≤ (wr.alloc (.cells #[.int .u8 255] 5)).heap.size := by have := hat.lt; simp; omega
            have hat1 := hat.alloc (.cells #[.int .u8 255] 5)
            have c0 : wr.cell? ⟨F, 0, none⟩ = some (.slice a k c) := hat.cell 0
            have hlr : (List.replicate k (255 : Int) ++ [255]).length = k + 1 := by simp
            have hrep : List.replicate k (255 : Int) ++ [255] = List.replicate (k + 1) 255 := List.replicate_succ'.symm
            have hle : (List.replicate k (255 : Int)).length + [255].length ≤ 10000000000000 := by simp; omega
            have HOA := Lib.hid hOa
            have HB1 := Lib.hid hb1
            have HS1 := Lib.hid hs1
            have HAT1 := Lib.hid hat1
            have HLR := Lib.hid (And.intro hlr hrep)
            have HLE := Lib.hid hle
            have HBW := Lib.hid (hBw.trans (hal.mono (Nat.le_of_lt hat.lt)))
            have HK := Lib.hid hlt
            clear hal hOa hb1 hs1 hat1 hlr hrep hle hBw hO hat hk hlt
            go_wp2_with (at_builtin; refine wpList_bapp8 rfl (.tmp 161) (.tmp 162) rfl (F + 1) _ (List.replicate k 255) rfl HOA.out _ (some ⟨wr.heap.size, 0, none⟩) 1 1 [255] rfl HB1.out HLE.out HS1.out ?_; intro a3 c3 w3 hO3 hB3; have A3 := HAT1.out.below (B := F + 1) (Nat.lt_succ_self _) hB3; have c4 := A3.cell 0; have f4 := A3.free 0; rw [HLR.out.1] at hO3 ⊢; rw [HLR.out.2] at hO3; have HO3 := Lib.hid hO3; have HB3 := Lib.hid hB3; have HA3 := Lib.hid A3; clear hO3 hB3 A3)
            obtain ⟨W7, hW7⟩ : ∃ W7, W7 = w3.setCell ⟨F, 0, none⟩ (.slice a3 (k + 1) c3) := ⟨_, rfl⟩
            rw [← hW7]
            have hu : Upd (fun j => j = F) w3 W7 := by rw [hW7]; exact (Upd.refl (fun j => j = F) w3).setCell (p := ⟨F, 0, none⟩) (.inl rfl) _
            have R1 := Lib.hid (show At 34 W7 F #[.slice a3 (k + 1 : Nat) c3, .int .i64 (-1), .int .i64 0] ∧ Own8 (F + 1) W7 (.slice a3 (k + 1 : Nat) c3) (List.replicate (k + 1) 255) ∧ Below F W5 W7 from by
              refine ⟨by rw [hW7]; exact HA3.out.set 0 _, ⟨HO3.out.1, ?_⟩, (HBW.out.trans (HB3.out.mono (Nat.le_succ _))).trans (hu.below (fun j e => Nat.le_of_eq e.symm) (Nat.le_of_lt HA3.out.lt))⟩
              have h2 := HO3.out.2
              have hr := HO3.out.row
              exact ownsRow_upd h2 hu (fun j hj e => by have := hr j hj; have e : j = F := e; omega))
            clear hW7 hu HA3 HO3 HB3 HBW HAT1 HOA HB1 HS1
            refine ⟨⟨_, rfl, rfl, ⟨rfl, rfl, rfl, rfl, rfl, rfl, rfl, rfl, rfl⟩, _, rfl, ?rel⟩, ?measure⟩
            case rel => exact ⟨k + 1, a3, c3, HK.out, by first | rfl | (show Value.int .i64 (wrap64 ((k : Int) + 1)) = _; rw [wk]), R1.out⟩
            case measure =>
              have hk2 := HK.out
              first
                | (show 40 - (intOf (.int .i64 (wrap64 ((k : Int) + 1)))).toNat < 40 - (intOf (.int .i64 (k : Int))).toNat; rw [wk])
                | (show 40 - (intOf (.int .i64 ((k + 1 : Nat) : Int))).toNat < 40 - (intOf (.int .i64 (k : Int))).toNat)
                | (show 40 - (intOf (.int .i64 ((k : Int) + 1))).toNat < 40 - (intOf (.int .i64 (k : Int))).toNat)
              first
                | (show 40 - ((k + 1 : Nat) : Int).toNat < 40 - ((k : Nat) : Int).toNat; omega)
                | (show 40 - ((k : Int) + 1).toNat < 40 - ((k : Nat) : Int).toNat; omega)
          have hk40 : k = 40 := by omega
          have i1 : ¬ ((k : Int) < 40) := by omega
          rw [hk40] at hat hO
          have hb : Below W5.heap.size W5 wr := by rw [HF.out]; exact hBw
          have S7 := Lib.hid (S5.out.next hb)
          have hbox := S7.out.one.st.box
          rw [← HCB.out] at hbox
          have cb0 : wr.cell? ⟨w.heap.size, 0, none⟩ = some (.slice ka K.length kc) := hbox.cell 0
          have cb1 : wr.cell? ⟨w.heap.size, 1, none⟩ = some (.int .i64 tt) := hbox.cell 1
          have cb2 : wr.cell? ⟨w.heap.size, 2, none⟩ = some (.int .i64 yy) := hbox.cell 2
          have HAT := Lib.hid hat
          have HOW := Lib.hid hO
          have hC := restart_anyE q d.pull wr S7.out.one.st.dev.dev ka K.length kc K tt yy (bys_crash HA.out.2.2 S7.out.one.st.dev.below) (fun hne z hz ho => by have := bys_own HA.out.2.2 hne z hz; have := S7.out.one.st.dev.fresh z ho; omega)
          rw [S7.out.one.st.dev.D] at hC
          unfold crashV at hC
          have er : restartE d.pull = 0 := rfl
          rw [er] at hC
          have HC := Lib.hid hC
          clear hk40 hat hO hBw hb hbox S5 hlt hk hC er HF
          go_wp2_with (refine load_any_op (load_at HBX.out rfl rfl rfl) rfl rfl rfl ?_)
          refine HC.out.mono ?_
          rintro e W8 ⟨rfl, q8, hd8, hS8⟩
          have S8 := Lib.hid (S7.out.fst hd8 hS8)
          have HO8 := Lib.hid (show Own8 (F + 1) W8 (.slice a 40 c) (List.replicate 40 255) from ⟨HOW.out.1, ownsRow_upd HOW.out.2 hS8.upd (fun z hz => by
            obtain ⟨cs, hcs⟩ := row_type (HOW.out.le (Nat.zero_le _)).2 hz
            exact not_own S7.out.one.st.dev.dev hcs (by decide))⟩)
          have hat8 := HAT.out.upd hS8.upd (not_own S7.out.one.st.dev.dev HAT.out (by decide))
          have ce0 : W8.cell? ⟨F, 0, none⟩ = some (.slice a 40 c) := hat8.cell 0
          have ce1 : W8.cell? ⟨F, 1, none⟩ = some (.int .i64 (-1)) := hat8.cell 1
          have ce2 : W8.cell? ⟨F, 2, none⟩ = some (.int .i64 0) := hat8.cell 2
          have hC := restart_anyE p' d.pull W8 S8.out.two.dev a 40 c (List.replicate 40 255) (-1) 0 HO8.out.bys (fun _ z hz => by
            obtain ⟨cs, hcs⟩ := row_type (HO8.out.le (Nat.zero_le _)).2 hz
            exact not_own S8.out.two.dev hcs (by decide))
          rw [S8.out.two.D] at hC
          unfold crashV at hC
          have er : restartE d.pull = 0 := rfl
          rw [er] at hC
          have HC2 := Lib.hid hC
          clear hd8 hS8 HC S7 HAT HOW hat8 hC er HO8 cb0 cb1 cb2
          go_wp2_with fail
          refine HC2.out.mono ?_
          rintro e W9 ⟨rfl, q9, hd9, hS9⟩
          have S9 := Lib.hid (S8.out.snd hd9 hS9)
          have KF := Lib.hid (keepF (d := d) DOK.out (by rw [HD.out.2.1]; exact D8.out) HD.out.2.2 K tt yy)
          rw [HD.out.2.1] at KF
          obtain ⟨dA, hdA⟩ : ∃ x, d.pull.restart (leftN K tt yy) = x := ⟨_, rfl⟩
          obtain ⟨dB, hdB⟩ : ∃ x, d.pull.restart (leftN (List.replicate 40 255) (-1) 0) = x := ⟨_, rfl⟩
          rw [hdA, hdB] at S9 KF
          clear hdA hdB hd9 hS9 HC2 S8 ce0 ce1 ce2 DOK HD D8
          go_wp2_with fail
          clear i1
          refine wp_loop (fun a' w' => ∃ l : List Value, a' = ⟨l.toArray, []⟩ ∧ l.length = 257 ∧ (l.getD 0 undef = .slice a0 len0 cap0 ∧ l.getD 1 undef = .slice a1 len1 cap1 ∧ l.getD 5 undef = .pointer (some ⟨w.heap.size, 0, none⟩) ∧ l.getD 7 undef = .bool true ∧ l.getD 8 undef = ptr D ∧ l.getD 11 undef = .pointer (some ⟨A, 0, none⟩) ∧ l.getD 12 undef = .pointer (some ⟨A + 1, 0, none⟩) ∧ l.getD 18 undef = ptr D' ∧ l.getD 19 undef = .pointer (some ⟨F, 0, none⟩)) ∧ ∃ o : Value, l.getD 20 undef = o ∧ ∃ i : Value, l.getD 176 undef = i ∧ (∃ (k m : Nat), k ≤ 8 ∧ i = .int .i64 k ∧ o = .int .i64 m ∧ St3 w D D' CB A (A + 1) (SS d1.safe) (HS d1.safe d.cache) w' q8 q9 dA dB ∧ (m = 0 ∨ (m = 1 ∧ ∃ n, n < k ∧ Torn d.cache tt n)))) (fun a' w' => 8 - (intOf (a'.tmps.getD 176 undef)).toNat) ?_ ?_
          · refine ⟨_, rfl, rfl, ⟨rfl, rfl, rfl, rfl, rfl, rfl, rfl, rfl, rfl⟩, _, rfl, _, rfl, ?_⟩
            exact ⟨0, 0, Nat.zero_le _, rfl, rfl, S9.out, .inl rfl⟩
          · rintro _ wr ⟨l, rfl, hl, ⟨g0, g1, g5, g7, g8, g11, g12, g18, g19⟩, o, v20, i, v176, j, m, hk, hki, hko, hS, hT⟩
            obtain ⟨u, hu, hv⟩ : ∃ u : Nat → Value, (∀ i, l.getD i undef = u i) ∧ l = (List.range 257).map u := ⟨_, fun _ => rfl, frame_of hl⟩
            rw [hu] at g0 g1 g5 g7 g8 g11 g12 g18 g19 v20 v176
            rw [hv, show (List.range 257).map u = [u 0, u 1, u 2, u 3, u 4, u 5, u 6, u 7, u 8, u 9, u 10, u 11, u 12, u 13, u 14, u 15, u 16, u 17, u 18, u 19, u 20, u 21, u 22, u 23, u 24, u 25, u 26, u 27, u 28, u 29, u 30, u 31, u 32, u 33, u 34, u 35, u 36, u 37, u 38, u 39, u 40, u 41, u 42, u 43, u 44, u 45, u 46, u 47, u 48, u 49, u 50, u 51, u 52, u 53, u 54, u 55, u 56, u 57, u 58, u 59, u 60, u 61, u 62, u 63, u 64, u 65, u 66, u 67, u 68, u 69, u 70, u 71, u 72, u 73, u 74, u 75, u 76, u 77, u 78, u 79, u 80, u 81, u 82, u 83, u 84, u 85, u 86, u 87, u 88, u 89, u 90, u 91, u 92, u 93, u 94, u 95, u 96, u 97, u 98, u 99, u 100, u 101, u 102, u 103, u 104, u 105, u 106, u 107, u 108, u 109, u 110, u 111, u 112, u 113, u 114, u 115, u 116, u 117, u 118, u 119, u 120, u 121, u 122, u 123, u 124, u 125, u 126, u 127, u 128, u 129, u 130, u 131, u 132, u 133, u 134, u 135, u 136, u 137, u 138, u 139, u 140, u 141, u 142, u 143, u 144, u 145, u 146, u 147, u 148, u 149, u 150, u 151, u 152, u 153, u 154, u 155, u 156, u 157, u 158, u 159, u 160, u 161, u 162, u 163, u 164, u 165, u 166, u 167, u 168, u 169, u 170, u 171, u 172, u 173, u 174, u 175, u 176, u 177, u 178, u 179, u 180, u 181, u 182, u 183, u 184, u 185, u 186, u 187, u 188, u 189, u 190, u 191, u 192, u 193, u 194, u 195, u 196, u 197, u 198, u 199, u 200, u 201, u 202, u 203, u 204, u 205, u 206, u 207, u 208, u 209, u 210, u 211, u 212, u 213, u 214, u 215, u 216, u 217, u 218, u 219, u 220, u 221, u 222, u 223, u 224, u 225, u 226, u 227, u 228, u 229, u 230, u 231, u 232, u 233, u 234, u 235, u 236, u 237, u 238, u 239, u 240, u 241, u 242, u 243, u 244, u 245, u 246, u 247, u 248, u 249, u 250, u 251, u 252, u 253, u 254, u 255, u 256] from rfl]
            rw [g0, g1, g5, g7, g8, g11, g12, g18, g19, v20, v176]
            clear hu hv hl g0 g1 g5 g7 g8 g11 g12 g18 g19 v20 v176 l
            rw [hki, hko]
            clear hki hko i o S9
            obtain ⟨k, hjk⟩ : ∃ k, j = k := ⟨_, rfl⟩
            rw [hjk] at hk hT ⊢
            clear hjk j
            by_cases hlt : k < 8
            case pos =>
              have i1 : (k : Int) < 8 := by omega
              have in0 : (0 : Int) ≤ (k : Int) := by omega
              have wk : wrap64 ((k : Int) + 1) = ((k + 1 : Nat) : Int) := by unfold wrap64; omega
              have hhA : HasN dA (k : Int) := ⟨by omega, by rw [KF.out.a.2.2]; omega⟩
              have hhB : HasN dB (k : Int) := ⟨by omega, by rw [KF.out.b.2.2]; omega⟩
              have haA : accE dA (k : Int) = 0 := by unfold accE; rw [KF.out.a.1, if_neg (by simp), if_pos hhA]
              have haB : accE dB (k : Int) = 0 := by unfold accE; rw [KF.out.b.1, if_neg (by simp), if_pos hhB]
              have S := Lib.hid hS
              have hRA := read_yes q8 dA wr S.out.one.st.dev.dev (k : Int) haA
              rw [S.out.one.st.dev.D, read_empty KF.out.a.2.1] at hRA
              have HRA := Lib.hid hRA
              have SA := Lib.hid (read_bytes S.out.one.st.dev.dev.ok hhA)
              have SB := Lib.hid (read_bytes S.out.two.dev.ok hhB)
              rw [read_empty KF.out.a.2.1] at SA
              rw [read_empty KF.out.b.2.1] at SB
              have HT := Lib.hid hT
              have HK := Lib.hid hlt
              have HAB := Lib.hid haB
              clear hS hT hlt hk hhA hhB haA haB hRA
              go_wp2_with fail
              refine HRA.out.mono ?_
              rintro e Z1 ⟨⟨gA, hgA, rfl, hatA, hBA⟩, hlA⟩
              have S1 := Lib.hid (S.out.next hBA)
              have hRB := read_yes q9 dB Z1 S1.out.two.dev (k : Int) HAB.out
              rw [S1.out.two.D, read_empty KF.out.b.2.1] at hRB
              have HRB := Lib.hid hRB
              have HATA := Lib.hid hatA
              have HLA := Lib.hid hlA
              clear hgA hatA hBA hlA hRB HRA S
              go_wp2_with fail
              refine HRB.out.mono ?_
              rintro e Z2 ⟨⟨gB, hgB, rfl, hatB, hBB⟩, hlB⟩
              have S2 := Lib.hid (S1.out.next hBB)
              have HATA2 := Lib.hid (HATA.out.below HATA.out.lt hBB)
              have HATB2 := Lib.hid hatB
              have HLB := Lib.hid hlB
              clear hgB hatB hBB hlB HRB S1 HATA
              obtain ⟨sA, hsA⟩ : ∃ s, strOfNums (dA.at (k : Int)) = s := ⟨_, rfl⟩
              obtain ⟨sB, hsB⟩ : ∃ s, strOfNums (dB.at (k : Int)) = s := ⟨_, rfl⟩
              have CVA := Lib.hid (show ∀ Z : World, (At 72 Z gA (vals8 (dA.at (k : Int))).toArray) → (convert 32 9 (.slice (some ⟨gA, 0, none⟩) 128 128)).run Try.prog Z = .ok (.string sA) Z from fun Z hZ => by
                have := conv_bys (bys_at hZ SA.out.2 128)
                rwa [HLA.out, hsA] at this)
              have CVB := Lib.hid (show ∀ Z : World, (At 72 Z gB (vals8 (dB.at (k : Int))).toArray) → (convert 32 9 (.slice (some ⟨gB, 0, none⟩) 128 128)).run Try.prog Z = .ok (.string sB) Z from fun Z hZ => by
                have := conv_bys (bys_at hZ SB.out.2 128)
                rwa [HLB.out, hsB] at this)
              obtain ⟨n0, hn0⟩ : ∃ n0, (HS d1.safe d.cache k).length = n0 + 1 := by
                have := histS_pos d1.safe d.cache k
                rw [HS_at _ _ HK.out]
                exact ⟨(histS d1.safe d.cache k).length - 1, by omega⟩
              have hn1 : n0 ≤ 300 := by have := histS_len d1.safe d.cache k; rw [← HS_at _ _ HK.out] at this; have := HDL.out; omega
              have hlast := KF.out.last k HK.out
              have hsame := KF.out.same k HK.out
              have hmem := KF.out.mem k HK.out
              rw [hsB, hn0, Nat.add_sub_cancel] at hlast
              rw [hsA, hn0] at hsame hmem
              have HMEM := Lib.hid hmem
              obtain ⟨v, hv⟩ := S2.out.one.all
              obtain ⟨gv, cv, hvk, hvc⟩ := hv.form HK.out (by rw [hn0]; omega)
              rw [hn0] at hvk
              have rA := (hv.at_.cell k).trans (tab8_get _ k HK.out)
              rw [hvk] at rA
              have rL := hvc n0 (by rw [hn0]; omega)
              rw [← hlast] at rL
              have rS := (S2.out.one.str.cell k).trans (tab8_get _ k HK.out)
              have cvA := CVA.out Z2 HATA2.out
              have cvB := CVB.out Z2 HATB2.out
              have cvA' : ∀ n, (convert 32 9 (.slice (some ⟨gA, 0, none⟩) 128 128)).run Try.prog (Z2.drewN n) = .ok (.string sA) (Z2.drewN n) := fun n => CVA.out _ (HATA2.out.below HATA2.out.lt (below_drewN (Below.refl _ Z2) n))
              have cvB' : ∀ n, (convert 32 9 (.slice (some ⟨gB, 0, none⟩) 128 128)).run Try.prog (Z2.drewN n) = .ok (.string sB) (Z2.drewN n) := fun n => CVB.out _ (HATB2.out.below HATB2.out.lt (below_drewN (Below.refl _ Z2) n))
              have j0 : (0 : Int) ≤ (n0 : Int) := by omega
              have j1 : (n0 : Int) < ((n0 + 1 : Nat) : Int) := by omega
              have j2 : (n0 : Int) < (n0 : Int) + 1 := by omega
              have WL := Lib.hid (show IntKind.i64.wrap (n0 : Int) = (n0 : Int) ∧ wrap64 (n0 : Int) = (n0 : Int) from ⟨wrapI_nat n0 (by omega), wrap64_nat n0 (by omega)⟩)
              have HVC := Lib.hid hvc
              have HN0 := Lib.hid hn0
              have HV := Lib.hid hv
              have HSA := Lib.hid hsA
              have HVK := Lib.hid hvk
              clear hv hvc hn0 hsA hsB hlast hmem hvk
              go_wp2_with fail
              by_cases h1 : n0 = 0
              case pos =>
                have hq := hsame (by omega)
                rw [← hq] at rS
                have rL' : Z2.cell? ⟨gv, 0, none⟩ = some (.string sB) := by rw [h1] at rL; exact rL
                have rA' : Z2.cell? ⟨A + 1, k, none⟩ = some (.slice (some ⟨gv, 0, none⟩) 1 cv) := by rw [h1] at rA; exact rA
                clear hsame cvA cvB hq rL rA h1
                obtain ⟨wl4, wl5⟩ := WL.out
                go_quiet (fail)
                clear rL' rA'
                clear wl4 wl5 rS cvA' cvB'
                have hb3 := below_drewN (Below.refl Z2.heap.size Z2) nq
                have S3 := Lib.hid (S2.out.next hb3)
                have HATA3 := Lib.hid (HATA2.out.below HATA2.out.lt hb3)
                have rA3 := ((HV.out.next hb3).at_.cell k).trans (tab8_get _ k HK.out)
                rw [HVK.out] at rA3
                obtain ⟨Z3, hZ3⟩ : ∃ Z, Z = Z2.drewN nq := ⟨_, rfl⟩
                rw [← hZ3] at S3 HATA3 rA3 ⊢
                clear hZ3 hb3 HATA2 HATB2 HVC HV WL CVB S2 j1 j2 j0 HVK
                go_wp2_with fail
                clear rA3
                refine wp_loop (fun a' w' => ∃ l : List Value, a' = ⟨l.toArray, []⟩ ∧ l.length = 257 ∧ (l.getD 0 undef = .slice a0 len0 cap0 ∧ l.getD 1 undef = .slice a1 len1 cap1 ∧ l.getD 5 undef = .pointer (some ⟨w.heap.size, 0, none⟩) ∧ l.getD 7 undef = .bool true ∧ l.getD 8 undef = ptr D ∧ l.getD 11 undef = .pointer (some ⟨A, 0, none⟩) ∧ l.getD 12 undef = .pointer (some ⟨A + 1, 0, none⟩) ∧ l.getD 18 undef = ptr D' ∧ l.getD 19 undef = .pointer (some ⟨F, 0, none⟩) ∧ l.getD 20 undef = .int .i64 (m : Int) ∧ l.getD 21 undef = .int .i64 (k : Int) ∧ l.getD 22 undef = .slice (some ⟨gA, 0, none⟩) 128 128 ∧ l.getD 176 undef = .int .i64 (k : Int) ∧ l.getD 230 undef = .int .i64 ((n0 : Int) + 1)) ∧ ∃ b : Value, l.getD 26 undef = b ∧ ∃ i : Value, l.getD 231 undef = i ∧ (∃ (jj : Nat) (bb : Bool), jj ≤ n0 + 1 ∧ i = .int .i64 jj ∧ b = .bool bb ∧ (∀ t, t < jj → (HS d1.safe d.cache k).getD t ByteArray.empty = sA → bb = true) ∧ St3 w D D' CB A (A + 1) (SS d1.safe) (HS d1.safe d.cache) w' q8 q9 dA dB ∧ At 72 w' gA (vals8 (dA.at (k : Int))).toArray)) (fun a' w' => (n0 + 1) - (intOf (a'.tmps.getD 231 undef)).toNat) ?_ ?_
                · refine ⟨_, rfl, rfl, ⟨rfl, rfl, rfl, rfl, rfl, rfl, rfl, rfl, rfl, rfl, rfl, rfl, rfl, rfl⟩, _, rfl, _, rfl, ?_⟩
                  exact ⟨0, false, Nat.zero_le _, rfl, rfl, fun t ht => absurd ht (Nat.not_lt_zero _), S3.out, HATA3.out⟩
                · rintro _ wr ⟨l, rfl, hl, ⟨g0, g1, g5, g7, g8, g11, g12, g18, g19, g20, g21, g22, g176, g230⟩, b, v26, i, v231, j, bb, hk, hki, hkb, hall, hS, hat⟩
                  obtain ⟨u, hu, hv⟩ : ∃ u : Nat → Value, (∀ i, l.getD i undef = u i) ∧ l = (List.range 257).map u := ⟨_, fun _ => rfl, frame_of hl⟩
                  rw [hu] at g0 g1 g5 g7 g8 g11 g12 g18 g19 g20 g21 g22 g176 g230 v26 v231
                  rw [hv, show (List.range 257).map u = [u 0, u 1, u 2, u 3, u 4, u 5, u 6, u 7, u 8, u 9, u 10, u 11, u 12, u 13, u 14, u 15, u 16, u 17, u 18, u 19, u 20, u 21, u 22, u 23, u 24, u 25, u 26, u 27, u 28, u 29, u 30, u 31, u 32, u 33, u 34, u 35, u 36, u 37, u 38, u 39, u 40, u 41, u 42, u 43, u 44, u 45, u 46, u 47, u 48, u 49, u 50, u 51, u 52, u 53, u 54, u 55, u 56, u 57, u 58, u 59, u 60, u 61, u 62, u 63, u 64, u 65, u 66, u 67, u 68, u 69, u 70, u 71, u 72, u 73, u 74, u 75, u 76, u 77, u 78, u 79, u 80, u 81, u 82, u 83, u 84, u 85, u 86, u 87, u 88, u 89, u 90, u 91, u 92, u 93, u 94, u 95, u 96, u 97, u 98, u 99, u 100, u 101, u 102, u 103, u 104, u 105, u 106, u 107, u 108, u 109, u 110, u 111, u 112, u 113, u 114, u 115, u 116, u 117, u 118, u 119, u 120, u 121, u 122, u 123, u 124, u 125, u 126, u 127, u 128, u 129, u 130, u 131, u 132, u 133, u 134, u 135, u 136, u 137, u 138, u 139, u 140, u 141, u 142, u 143, u 144, u 145, u 146, u 147, u 148, u 149, u 150, u 151, u 152, u 153, u 154, u 155, u 156, u 157, u 158, u 159, u 160, u 161, u 162, u 163, u 164, u 165, u 166, u 167, u 168, u 169, u 170, u 171, u 172, u 173, u 174, u 175, u 176, u 177, u 178, u 179, u 180, u 181, u 182, u 183, u 184, u 185, u 186, u 187, u 188, u 189, u 190, u 191, u 192, u 193, u 194, u 195, u 196, u 197, u 198, u 199, u 200, u 201, u 202, u 203, u 204, u 205, u 206, u 207, u 208, u 209, u 210, u 211, u 212, u 213, u 214, u 215, u 216, u 217, u 218, u 219, u 220, u 221, u 222, u 223, u 224, u 225, u 226, u 227, u 228, u 229, u 230, u 231, u 232, u 233, u 234, u 235, u 236, u 237, u 238, u 239, u 240, u 241, u 242, u 243, u 244, u 245, u 246, u 247, u 248, u 249, u 250, u 251, u 252, u 253, u 254, u 255, u 256] from rfl]
                  rw [g0, g1, g5, g7, g8, g11, g12, g18, g19, g20, g21, g22, g176, g230, v26, v231]
                  clear hu hv hl g0 g1 g5 g7 g8 g11 g12 g18 g19 g20 g21 g22 g176 g230 v26 v231 l
                  rw [hki, hkb]
                  clear hki hkb i b S3 HATA3
                  obtain ⟨jj, hjk⟩ : ∃ jj, j = jj := ⟨_, rfl⟩
                  rw [hjk] at hk hall ⊢
                  clear hjk j
                  by_cases hlt : jj < n0 + 1
                  case pos =>
                    have jlt : (jj : Int) < (n0 : Int) + 1 := by omega
                    have jn0 : (0 : Int) ≤ (jj : Int) := by omega
                    have wj : wrap64 ((jj : Int) + 1) = ((jj + 1 : Nat) : Int) := by unfold wrap64; omega
                    obtain ⟨v', hv'⟩ := hS.one.all
                    obtain ⟨g', c', hvk', hvc'⟩ := hv'.form HK.out (by rw [HN0.out]; omega)
                    rw [HN0.out] at hvk'
                    have rA := (hv'.at_.cell k).trans (tab8_get _ k HK.out)
                    rw [hvk'] at rA
                    have rJ := hvc' jj (by rw [HN0.out]; exact hlt)
                    obtain ⟨sJ, hsJ⟩ : ∃ x, (HS d1.safe d.cache k).getD jj ByteArray.empty = x := ⟨_, rfl⟩
                    rw [hsJ] at rJ
                    have cvA' : ∀ n, (convert 32 9 (.slice (some ⟨gA, 0, none⟩) 128 128)).run Try.prog (wr.drewN n) = .ok (.string sA) (wr.drewN n) := fun n => CVA.out _ (hat.below hat.lt (below_drewN (Below.refl _ wr) n))
                    have S3 := Lib.hid hS
                    have HATA3 := Lib.hid hat
                    have HSJ := Lib.hid hsJ
                    have HALL := Lib.hid hall
                    have HJ := Lib.hid hlt
                    clear hS hat hsJ hall hlt hk hv' hvk' hvc'
                    go_wp2_with fail
                    cases bb
                    case false =>
                      go_quiet (fail)
                      clear rA rJ cvA'
                      have hb4 := below_drewN (Below.refl wr.heap.size wr) nq
                      have S4 := Lib.hid (S3.out.next hb4)
                      have HATA4 := Lib.hid (HATA3.out.below HATA3.out.lt hb4)
                      clear hb4
                      go_wp2
                      have hprf : ∀ t, t < jj + 1 → (HS d1.safe d.cache k).getD t ByteArray.empty = sA → (sJ = sA) := fun t ht e => by
                        by_cases q : t = jj
                        · subst q; rw [HSJ.out] at e; exact e
                        · exact absurd (HALL.out t (by omega) e) (by simp)
                      first
                        | refine ⟨⟨_, rfl, rfl, ⟨rfl, rfl, rfl, rfl, rfl, rfl, rfl, rfl, rfl, rfl, rfl, rfl, rfl, rfl⟩, _, rfl, _, rfl, ⟨jj + 1, _, HJ.out, by first | rfl | (show Value.int .i64 (wrap64 ((jj : Int) + 1)) = _; rw [wj]), rfl, (fun t ht e => by have := hprf t ht e; subst this; simp), S4.out, HATA4.out⟩⟩, ?_⟩
                        | refine ⟨⟨jj + 1, HJ.out, by simp, (fun t ht e => by have := hprf t ht e; subst this; simp), S4.out, HATA4.out⟩, ?_⟩
                        | refine ⟨⟨jj + 1, HJ.out, by simp, (fun t ht e => hprf t ht e), S4.out, HATA4.out⟩, ?_⟩
                        | (trace_state; sorry)
                      have hk2 := HJ.out
                      first
                        | (show (n0 + 1) - (intOf (.int .i64 (wrap64 ((jj : Int) + 1)))).toNat < (n0 + 1) - (intOf (.int .i64 (jj : Int))).toNat; rw [wj])
                        | (show (n0 + 1) - (intOf (.int .i64 ((jj + 1 : Nat) : Int))).toNat < (n0 + 1) - (intOf (.int .i64 (jj : Int))).toNat)
                        | (show (n0 + 1) - (intOf (.int .i64 ((jj : Int) + 1))).toNat < (n0 + 1) - (intOf (.int .i64 (jj : Int))).toNat)
                      first
                        | (show (n0 + 1) - ((jj + 1 : Nat) : Int).toNat < (n0 + 1) - ((jj : Nat) : Int).toNat; omega)
                        | (show (n0 + 1) - ((jj : Int) + 1).toNat < (n0 + 1) - ((jj : Nat) : Int).toNat; omega)
                    case true =>
                      go_quiet (fail)
                      clear rA rJ cvA'
                      have hb4 := below_drewN (Below.refl wr.heap.size wr) nq
                      have S4 := Lib.hid (S3.out.next hb4)
                      have HATA4 := Lib.hid (HATA3.out.below HATA3.out.lt hb4)
                      clear hb4
                      go_wp2
                      first
                        | refine ⟨⟨jj + 1, HJ.out, by simp, S4.out, HATA4.out⟩, ?_⟩
                        | refine ⟨⟨_, rfl, rfl, ⟨rfl, rfl, rfl, rfl, rfl, rfl, rfl, rfl, rfl, rfl, rfl, rfl, rfl, rfl⟩, _, rfl, _, rfl, ⟨jj + 1, _, HJ.out, by first | rfl | (show Value.int .i64 (wrap64 ((jj : Int) + 1)) = _; rw [wj]), rfl, (fun t ht e => rfl), S4.out, HATA4.out⟩⟩, ?_⟩
                        | refine ⟨⟨jj + 1, HJ.out, by simp, (fun t ht e => rfl), S4.out, HATA4.out⟩, ?_⟩
                        | refine ⟨⟨jj + 1, true, HJ.out, by simp, rfl, (fun t ht e => rfl), S4.out, HATA4.out⟩, ?_⟩
                        | (trace_state; sorry)
                      have hk2 := HJ.out
                      first
                        | (show (n0 + 1) - (intOf (.int .i64 (wrap64 ((jj : Int) + 1)))).toNat < (n0 + 1) - (intOf (.int .i64 (jj : Int))).toNat; rw [wj])
                        | (show (n0 + 1) - (intOf (.int .i64 ((jj + 1 : Nat) : Int))).toNat < (n0 + 1) - (intOf (.int .i64 (jj : Int))).toNat)
                        | (show (n0 + 1) - (intOf (.int .i64 ((jj : Int) + 1))).toNat < (n0 + 1) - (intOf (.int .i64 (jj : Int))).toNat)
                      first
                        | (show (n0 + 1) - ((jj + 1 : Nat) : Int).toNat < (n0 + 1) - ((jj : Nat) : Int).toNat; omega)
                        | (show (n0 + 1) - ((jj : Int) + 1).toNat < (n0 + 1) - ((jj : Nat) : Int).toNat; omega)
                  have hje : jj = n0 + 1 := by omega
                  have jge : ¬ ((jj : Int) < (n0 : Int) + 1) := by omega
                  have hbt : ¬ Torn d.cache tt k → bb = true := fun ht => by
                    obtain ⟨j, hj, e⟩ := HMEM.out ht
                    exact hall j (by omega) e
                  have HBT := Lib.hid hbt
                  have S5 := Lib.hid hS
                  clear hS hall hat hbt hje hlt hk
                  cases bb
                  case true =>
                    go_wp2
                    first
                      | refine ⟨⟨k + 1, HK.out, by simp, m, rfl, S5.out, HT.out.imp id (fun h => ⟨h.1, let ⟨n, h1, h2⟩ := h.2; ⟨n, Nat.lt_succ_of_lt h1, h2⟩⟩)⟩, ?_⟩
                      | refine ⟨⟨_, rfl, rfl, ⟨rfl, rfl, rfl, rfl, rfl, rfl, rfl, rfl, rfl⟩, _, rfl, _, rfl, ⟨k + 1, m, HK.out, by first | rfl | (show Value.int .i64 (wrap64 ((k : Int) + 1)) = _; rw [wk]), rfl, S5.out, HT.out.imp id (fun h => ⟨h.1, let ⟨n, h1, h2⟩ := h.2; ⟨n, Nat.lt_succ_of_lt h1, h2⟩⟩)⟩⟩, ?_⟩
                      | refine ⟨⟨k + 1, HK.out, by simp, S5.out, HT.out.imp id (fun h => ⟨h.1, let ⟨n, h1, h2⟩ := h.2; ⟨n, Nat.lt_succ_of_lt h1, h2⟩⟩)⟩, ?_⟩
                      | refine ⟨⟨k + 1, m, HK.out, by simp, rfl, S5.out, HT.out.imp id (fun h => ⟨h.1, let ⟨n, h1, h2⟩ := h.2; ⟨n, Nat.lt_succ_of_lt h1, h2⟩⟩)⟩, ?_⟩
                      | refine ⟨⟨k + 1, HK.out, by simp, m, by simp, S5.out, HT.out.imp id (fun h => ⟨h.1, let ⟨n, h1, h2⟩ := h.2; ⟨n, Nat.lt_succ_of_lt h1, h2⟩⟩)⟩, ?_⟩
                      | (trace_state; sorry)
                    have hk2 := HK.out
                    first
                      | (show 8 - (intOf (.int .i64 (wrap64 ((k : Int) + 1)))).toNat < 8 - (intOf (.int .i64 (k : Int))).toNat; rw [wk])
                      | (show 8 - (intOf (.int .i64 ((k + 1 : Nat) : Int))).toNat < 8 - (intOf (.int .i64 (k : Int))).toNat)
                      | (show 8 - (intOf (.int .i64 ((k : Int) + 1))).toNat < 8 - (intOf (.int .i64 (k : Int))).toNat)
                    first
                      | (show 8 - ((k + 1 : Nat) : Int).toNat < 8 - ((k : Nat) : Int).toNat; omega)
                      | (show 8 - ((k : Int) + 1).toNat < 8 - ((k : Nat) : Int).toNat; omega)
                  case false =>
                    have hTk : Torn d.cache tt k := Classical.byContradiction fun q => by have := HBT.out q; cases this
                    have hm0 : m = 0 := by
                      rcases HT.out with e | ⟨_, n, hn, h⟩
                      · exact e
                      · have := h.one hTk; omega
                    subst hm0
                    have HTK := Lib.hid hTk
                    clear hTk
                    go_wp2
                    first
                      | refine ⟨⟨k + 1, HK.out, by simp, 1, rfl, S5.out, .inr ⟨rfl, k, Nat.lt_succ_self _, HTK.out⟩⟩, ?_⟩
                      | refine ⟨⟨_, rfl, rfl, ⟨rfl, rfl, rfl, rfl, rfl, rfl, rfl, rfl, rfl⟩, _, rfl, _, rfl, ⟨k + 1, 1, HK.out, by first | rfl | (show Value.int .i64 (wrap64 ((k : Int) + 1)) = _; rw [wk]), rfl, S5.out, .inr ⟨rfl, k, Nat.lt_succ_self _, HTK.out⟩⟩⟩, ?_⟩
                      | refine ⟨⟨k + 1, HK.out, by simp, S5.out, ⟨k, Nat.lt_succ_self _, HTK.out⟩⟩, ?_⟩
                      | refine ⟨⟨k + 1, 1, HK.out, by simp, rfl, S5.out, .inr ⟨rfl, k, Nat.lt_succ_self _, HTK.out⟩⟩, ?_⟩
                      | refine ⟨⟨k + 1, HK.out, by simp, 1, by simp, S5.out, .inr ⟨rfl, k, Nat.lt_succ_self _, HTK.out⟩⟩, ?_⟩
                      | (trace_state; sorry)
                    have hk2 := HK.out
                    first
                      | (show 8 - (intOf (.int .i64 (wrap64 ((k : Int) + 1)))).toNat < 8 - (intOf (.int .i64 (k : Int))).toNat; rw [wk])
                      | (show 8 - (intOf (.int .i64 ((k + 1 : Nat) : Int))).toNat < 8 - (intOf (.int .i64 (k : Int))).toNat)
                      | (show 8 - (intOf (.int .i64 ((k : Int) + 1))).toNat < 8 - (intOf (.int .i64 (k : Int))).toNat)
                    first
                      | (show 8 - ((k + 1 : Nat) : Int).toNat < 8 - ((k : Nat) : Int).toNat; omega)
                      | (show 8 - ((k : Int) + 1).toNat < 8 - ((k : Nat) : Int).toNat; omega)
              case neg =>
                have e1 : (((n0 + 1 : Nat) : Int) == 1) = false := by simpa using (show ¬ ((n0 + 1 : Nat) : Int) = 1 by omega)
                have e1' : ((n0 : Int) + 1 == 1) = false := by simpa using (show ¬ ((n0 : Int) + 1 = 1) by omega)
                clear hsame cvA cvB h1
                obtain ⟨wl4, wl5⟩ := WL.out
                go_quiet (fail)
                clear e1 e1' rL rA
                clear wl4 wl5 rS cvA' cvB'
                have hb3 := below_drewN (Below.refl Z2.heap.size Z2) nq
                have S3 := Lib.hid (S2.out.next hb3)
                have HATA3 := Lib.hid (HATA2.out.below HATA2.out.lt hb3)
                have rA3 := ((HV.out.next hb3).at_.cell k).trans (tab8_get _ k HK.out)
                rw [HVK.out] at rA3
                obtain ⟨Z3, hZ3⟩ : ∃ Z, Z = Z2.drewN nq := ⟨_, rfl⟩
                rw [← hZ3] at S3 HATA3 rA3 ⊢
                clear hZ3 hb3 HATA2 HATB2 HVC HV WL CVB S2 j1 j2 j0 HVK
                go_wp2_with fail
                clear rA3
                refine wp_loop (fun a' w' => ∃ l : List Value, a' = ⟨l.toArray, []⟩ ∧ l.length = 257 ∧ (l.getD 0 undef = .slice a0 len0 cap0 ∧ l.getD 1 undef = .slice a1 len1 cap1 ∧ l.getD 5 undef = .pointer (some ⟨w.heap.size, 0, none⟩) ∧ l.getD 7 undef = .bool true ∧ l.getD 8 undef = ptr D ∧ l.getD 11 undef = .pointer (some ⟨A, 0, none⟩) ∧ l.getD 12 undef = .pointer (some ⟨A + 1, 0, none⟩) ∧ l.getD 18 undef = ptr D' ∧ l.getD 19 undef = .pointer (some ⟨F, 0, none⟩) ∧ l.getD 20 undef = .int .i64 (m : Int) ∧ l.getD 21 undef = .int .i64 (k : Int) ∧ l.getD 22 undef = .slice (some ⟨gA, 0, none⟩) 128 128 ∧ l.getD 176 undef = .int .i64 (k : Int) ∧ l.getD 230 undef = .int .i64 ((n0 : Int) + 1)) ∧ ∃ b : Value, l.getD 26 undef = b ∧ ∃ i : Value, l.getD 231 undef = i ∧ (∃ (jj : Nat) (bb : Bool), jj ≤ n0 + 1 ∧ i = .int .i64 jj ∧ b = .bool bb ∧ (∀ t, t < jj → (HS d1.safe d.cache k).getD t ByteArray.empty = sA → bb = true) ∧ St3 w D D' CB A (A + 1) (SS d1.safe) (HS d1.safe d.cache) w' q8 q9 dA dB ∧ At 72 w' gA (vals8 (dA.at (k : Int))).toArray)) (fun a' w' => (n0 + 1) - (intOf (a'.tmps.getD 231 undef)).toNat) ?_ ?_
                · refine ⟨_, rfl, rfl, ⟨rfl, rfl, rfl, rfl, rfl, rfl, rfl, rfl, rfl, rfl, rfl, rfl, rfl, rfl⟩, _, rfl, _, rfl, ?_⟩
                  exact ⟨0, false, Nat.zero_le _, rfl, rfl, fun t ht => absurd ht (Nat.not_lt_zero _), S3.out, HATA3.out⟩
                · rintro _ wr ⟨l, rfl, hl, ⟨g0, g1, g5, g7, g8, g11, g12, g18, g19, g20, g21, g22, g176, g230⟩, b, v26, i, v231, j, bb, hk, hki, hkb, hall, hS, hat⟩
                  obtain ⟨u, hu, hv⟩ : ∃ u : Nat → Value, (∀ i, l.getD i undef = u i) ∧ l = (List.range 257).map u := ⟨_, fun _ => rfl, frame_of hl⟩
                  rw [hu] at g0 g1 g5 g7 g8 g11 g12 g18 g19 g20 g21 g22 g176 g230 v26 v231
                  rw [hv, show (List.range 257).map u = [u 0, u 1, u 2, u 3, u 4, u 5, u 6, u 7, u 8, u 9, u 10, u 11, u 12, u 13, u 14, u 15, u 16, u 17, u 18, u 19, u 20, u 21, u 22, u 23, u 24, u 25, u 26, u 27, u 28, u 29, u 30, u 31, u 32, u 33, u 34, u 35, u 36, u 37, u 38, u 39, u 40, u 41, u 42, u 43, u 44, u 45, u 46, u 47, u 48, u 49, u 50, u 51, u 52, u 53, u 54, u 55, u 56, u 57, u 58, u 59, u 60, u 61, u 62, u 63, u 64, u 65, u 66, u 67, u 68, u 69, u 70, u 71, u 72, u 73, u 74, u 75, u 76, u 77, u 78, u 79, u 80, u 81, u 82, u 83, u 84, u 85, u 86, u 87, u 88, u 89, u 90, u 91, u 92, u 93, u 94, u 95, u 96, u 97, u 98, u 99, u 100, u 101, u 102, u 103, u 104, u 105, u 106, u 107, u 108, u 109, u 110, u 111, u 112, u 113, u 114, u 115, u 116, u 117, u 118, u 119, u 120, u 121, u 122, u 123, u 124, u 125, u 126, u 127, u 128, u 129, u 130, u 131, u 132, u 133, u 134, u 135, u 136, u 137, u 138, u 139, u 140, u 141, u 142, u 143, u 144, u 145, u 146, u 147, u 148, u 149, u 150, u 151, u 152, u 153, u 154, u 155, u 156, u 157, u 158, u 159, u 160, u 161, u 162, u 163, u 164, u 165, u 166, u 167, u 168, u 169, u 170, u 171, u 172, u 173, u 174, u 175, u 176, u 177, u 178, u 179, u 180, u 181, u 182, u 183, u 184, u 185, u 186, u 187, u 188, u 189, u 190, u 191, u 192, u 193, u 194, u 195, u 196, u 197, u 198, u 199, u 200, u 201, u 202, u 203, u 204, u 205, u 206, u 207, u 208, u 209, u 210, u 211, u 212, u 213, u 214, u 215, u 216, u 217, u 218, u 219, u 220, u 221, u 222, u 223, u 224, u 225, u 226, u 227, u 228, u 229, u 230, u 231, u 232, u 233, u 234, u 235, u 236, u 237, u 238, u 239, u 240, u 241, u 242, u 243, u 244, u 245, u 246, u 247, u 248, u 249, u 250, u 251, u 252, u 253, u 254, u 255, u 256] from rfl]
                  rw [g0, g1, g5, g7, g8, g11, g12, g18, g19, g20, g21, g22, g176, g230, v26, v231]
                  clear hu hv hl g0 g1 g5 g7 g8 g11 g12 g18 g19 g20 g21 g22 g176 g230 v26 v231 l
                  rw [hki, hkb]
                  clear hki hkb i b S3 HATA3
                  obtain ⟨jj, hjk⟩ : ∃ jj, j = jj := ⟨_, rfl⟩
                  rw [hjk] at hk hall ⊢
                  clear hjk j
                  by_cases hlt : jj < n0 + 1
                  case pos =>
                    have jlt : (jj : Int) < (n0 : Int) + 1 := by omega
                    have jn0 : (0 : Int) ≤ (jj : Int) := by omega
                    have wj : wrap64 ((jj : Int) + 1) = ((jj + 1 : Nat) : Int) := by unfold wrap64; omega
                    obtain ⟨v', hv'⟩ := hS.one.all
                    obtain ⟨g', c', hvk', hvc'⟩ := hv'.form HK.out (by rw [HN0.out]; omega)
                    rw [HN0.out] at hvk'
                    have rA := (hv'.at_.cell k).trans (tab8_get _ k HK.out)
                    rw [hvk'] at rA
                    have rJ := hvc' jj (by rw [HN0.out]; exact hlt)
                    obtain ⟨sJ, hsJ⟩ : ∃ x, (HS d1.safe d.cache k).getD jj ByteArray.empty = x := ⟨_, rfl⟩
                    rw [hsJ] at rJ
                    have cvA' : ∀ n, (convert 32 9 (.slice (some ⟨gA, 0, none⟩) 128 128)).run Try.prog (wr.drewN n) = .ok (.string sA) (wr.drewN n) := fun n => CVA.out _ (hat.below hat.lt (below_drewN (Below.refl _ wr) n))
                    have S3 := Lib.hid hS
                    have HATA3 := Lib.hid hat
                    have HSJ := Lib.hid hsJ
                    have HALL := Lib.hid hall
                    have HJ := Lib.hid hlt
                    clear hS hat hsJ hall hlt hk hv' hvk' hvc'
                    go_wp2_with fail
                    cases bb
                    case false =>
                      go_quiet (fail)
                      clear rA rJ cvA'
                      have hb4 := below_drewN (Below.refl wr.heap.size wr) nq
                      have S4 := Lib.hid (S3.out.next hb4)
                      have HATA4 := Lib.hid (HATA3.out.below HATA3.out.lt hb4)
                      clear hb4
                      go_wp2
                      have hprf : ∀ t, t < jj + 1 → (HS d1.safe d.cache k).getD t ByteArray.empty = sA → (sJ = sA) := fun t ht e => by
                        by_cases q : t = jj
                        · subst q; rw [HSJ.out] at e; exact e
                        · exact absurd (HALL.out t (by omega) e) (by simp)
                      first
                        | refine ⟨⟨_, rfl, rfl, ⟨rfl, rfl, rfl, rfl, rfl, rfl, rfl, rfl, rfl, rfl, rfl, rfl, rfl, rfl⟩, _, rfl, _, rfl, ⟨jj + 1, _, HJ.out, by first | rfl | (show Value.int .i64 (wrap64 ((jj : Int) + 1)) = _; rw [wj]), rfl, (fun t ht e => by have := hprf t ht e; subst this; simp), S4.out, HATA4.out⟩⟩, ?_⟩
                        | refine ⟨⟨jj + 1, HJ.out, by simp, (fun t ht e => by have := hprf t ht e; subst this; simp), S4.out, HATA4.out⟩, ?_⟩
                        | refine ⟨⟨jj + 1, HJ.out, by simp, (fun t ht e => hprf t ht e), S4.out, HATA4.out⟩, ?_⟩
                        | (trace_state; sorry)
                      have hk2 := HJ.out
                      first
                        | (show (n0 + 1) - (intOf (.int .i64 (wrap64 ((jj : Int) + 1)))).toNat < (n0 + 1) - (intOf (.int .i64 (jj : Int))).toNat; rw [wj])
                        | (show (n0 + 1) - (intOf (.int .i64 ((jj + 1 : Nat) : Int))).toNat < (n0 + 1) - (intOf (.int .i64 (jj : Int))).toNat)
                        | (show (n0 + 1) - (intOf (.int .i64 ((jj : Int) + 1))).toNat < (n0 + 1) - (intOf (.int .i64 (jj : Int))).toNat)
                      first
                        | (show (n0 + 1) - ((jj + 1 : Nat) : Int).toNat < (n0 + 1) - ((jj : Nat) : Int).toNat; omega)
                        | (show (n0 + 1) - ((jj : Int) + 1).toNat < (n0 + 1) - ((jj : Nat) : Int).toNat; omega)
                    case true =>
                      go_quiet (fail)
                      clear rA rJ cvA'
                      have hb4 := below_drewN (Below.refl wr.heap.size wr) nq
                      have S4 := Lib.hid (S3.out.next hb4)
                      have HATA4 := Lib.hid (HATA3.out.below HATA3.out.lt hb4)
                      clear hb4
                      go_wp2
                      first
                        | refine ⟨⟨jj + 1, HJ.out, by simp, S4.out, HATA4.out⟩, ?_⟩
                        | refine ⟨⟨_, rfl, rfl, ⟨rfl, rfl, rfl, rfl, rfl, rfl, rfl, rfl, rfl, rfl, rfl, rfl, rfl, rfl⟩, _, rfl, _, rfl, ⟨jj + 1, _, HJ.out, by first | rfl | (show Value.int .i64 (wrap64 ((jj : Int) + 1)) = _; rw [wj]), rfl, (fun t ht e => rfl), S4.out, HATA4.out⟩⟩, ?_⟩
                        | refine ⟨⟨jj + 1, HJ.out, by simp, (fun t ht e => rfl), S4.out, HATA4.out⟩, ?_⟩
                        | refine ⟨⟨jj + 1, true, HJ.out, by simp, rfl, (fun t ht e => rfl), S4.out, HATA4.out⟩, ?_⟩
                        | (trace_state; sorry)
                      have hk2 := HJ.out
                      first
                        | (show (n0 + 1) - (intOf (.int .i64 (wrap64 ((jj : Int) + 1)))).toNat < (n0 + 1) - (intOf (.int .i64 (jj : Int))).toNat; rw [wj])
                        | (show (n0 + 1) - (intOf (.int .i64 ((jj + 1 : Nat) : Int))).toNat < (n0 + 1) - (intOf (.int .i64 (jj : Int))).toNat)
                        | (show (n0 + 1) - (intOf (.int .i64 ((jj : Int) + 1))).toNat < (n0 + 1) - (intOf (.int .i64 (jj : Int))).toNat)
                      first
                        | (show (n0 + 1) - ((jj + 1 : Nat) : Int).toNat < (n0 + 1) - ((jj : Nat) : Int).toNat; omega)
                        | (show (n0 + 1) - ((jj : Int) + 1).toNat < (n0 + 1) - ((jj : Nat) : Int).toNat; omega)
                  have hje : jj = n0 + 1 := by omega
                  have jge : ¬ ((jj : Int) < (n0 : Int) + 1) := by omega
                  have hbt : ¬ Torn d.cache tt k → bb = true := fun ht => by
                    obtain ⟨j, hj, e⟩ := HMEM.out ht
                    exact hall j (by omega) e
                  have HBT := Lib.hid hbt
                  have S5 := Lib.hid hS
                  clear hS hall hat hbt hje hlt hk
                  cases bb
                  case true =>
                    go_wp2
                    first
                      | refine ⟨⟨k + 1, HK.out, by simp, m, rfl, S5.out, HT.out.imp id (fun h => ⟨h.1, let ⟨n, h1, h2⟩ := h.2; ⟨n, Nat.lt_succ_of_lt h1, h2⟩⟩)⟩, ?_⟩
                      | refine ⟨⟨_, rfl, rfl, ⟨rfl, rfl, rfl, rfl, rfl, rfl, rfl, rfl, rfl⟩, _, rfl, _, rfl, ⟨k + 1, m, HK.out, by first | rfl | (show Value.int .i64 (wrap64 ((k : Int) + 1)) = _; rw [wk]), rfl, S5.out, HT.out.imp id (fun h => ⟨h.1, let ⟨n, h1, h2⟩ := h.2; ⟨n, Nat.lt_succ_of_lt h1, h2⟩⟩)⟩⟩, ?_⟩
                      | refine ⟨⟨k + 1, HK.out, by simp, S5.out, HT.out.imp id (fun h => ⟨h.1, let ⟨n, h1, h2⟩ := h.2; ⟨n, Nat.lt_succ_of_lt h1, h2⟩⟩)⟩, ?_⟩
                      | refine ⟨⟨k + 1, m, HK.out, by simp, rfl, S5.out, HT.out.imp id (fun h => ⟨h.1, let ⟨n, h1, h2⟩ := h.2; ⟨n, Nat.lt_succ_of_lt h1, h2⟩⟩)⟩, ?_⟩
                      | refine ⟨⟨k + 1, HK.out, by simp, m, by simp, S5.out, HT.out.imp id (fun h => ⟨h.1, let ⟨n, h1, h2⟩ := h.2; ⟨n, Nat.lt_succ_of_lt h1, h2⟩⟩)⟩, ?_⟩
                      | (trace_state; sorry)
                    have hk2 := HK.out
                    first
                      | (show 8 - (intOf (.int .i64 (wrap64 ((k : Int) + 1)))).toNat < 8 - (intOf (.int .i64 (k : Int))).toNat; rw [wk])
                      | (show 8 - (intOf (.int .i64 ((k + 1 : Nat) : Int))).toNat < 8 - (intOf (.int .i64 (k : Int))).toNat)
                      | (show 8 - (intOf (.int .i64 ((k : Int) + 1))).toNat < 8 - (intOf (.int .i64 (k : Int))).toNat)
                    first
                      | (show 8 - ((k + 1 : Nat) : Int).toNat < 8 - ((k : Nat) : Int).toNat; omega)
                      | (show 8 - ((k : Int) + 1).toNat < 8 - ((k : Nat) : Int).toNat; omega)
                  case false =>
                    have hTk : Torn d.cache tt k := Classical.byContradiction fun q => by have := HBT.out q; cases this
                    have hm0 : m = 0 := by
                      rcases HT.out with e | ⟨_, n, hn, h⟩
                      · exact e
                      · have := h.one hTk; omega
                    subst hm0
                    have HTK := Lib.hid hTk
                    clear hTk
                    go_wp2
                    first
                      | refine ⟨⟨k + 1, HK.out, by simp, 1, rfl, S5.out, .inr ⟨rfl, k, Nat.lt_succ_self _, HTK.out⟩⟩, ?_⟩
                      | refine ⟨⟨_, rfl, rfl, ⟨rfl, rfl, rfl, rfl, rfl, rfl, rfl, rfl, rfl⟩, _, rfl, _, rfl, ⟨k + 1, 1, HK.out, by first | rfl | (show Value.int .i64 (wrap64 ((k : Int) + 1)) = _; rw [wk]), rfl, S5.out, .inr ⟨rfl, k, Nat.lt_succ_self _, HTK.out⟩⟩⟩, ?_⟩
                      | refine ⟨⟨k + 1, HK.out, by simp, S5.out, ⟨k, Nat.lt_succ_self _, HTK.out⟩⟩, ?_⟩
                      | refine ⟨⟨k + 1, 1, HK.out, by simp, rfl, S5.out, .inr ⟨rfl, k, Nat.lt_succ_self _, HTK.out⟩⟩, ?_⟩
                      | refine ⟨⟨k + 1, HK.out, by simp, 1, by simp, S5.out, .inr ⟨rfl, k, Nat.lt_succ_self _, HTK.out⟩⟩, ?_⟩
                      | (trace_state; sorry)
                    have hk2 := HK.out
                    first
                      | (show 8 - (intOf (.int .i64 (wrap64 ((k : Int) + 1)))).toNat < 8 - (intOf (.int .i64 (k : Int))).toNat; rw [wk])
                      | (show 8 - (intOf (.int .i64 ((k + 1 : Nat) : Int))).toNat < 8 - (intOf (.int .i64 (k : Int))).toNat)
                      | (show 8 - (intOf (.int .i64 ((k : Int) + 1))).toNat < 8 - (intOf (.int .i64 (k : Int))).toNat)
                    first
                      | (show 8 - ((k + 1 : Nat) : Int).toNat < 8 - ((k : Nat) : Int).toNat; omega)
                      | (show 8 - ((k : Int) + 1).toNat < 8 - ((k : Nat) : Int).toNat; omega)
            have i1 : ¬ ((k : Int) < 8) := by omega
            have S5 := Lib.hid hS
            clear hS hlt hk
            rcases hT with rfl | ⟨rfl, _⟩
            · go_wp2
              go_ret
              exact ⟨rfl, S5.out.one.st.dev.below⟩
            · go_wp2
              go_ret
              exact ⟨rfl, S5.out.one.st.dev.below⟩
end Go.Proofs.Yteopbeafhhfdoaa
