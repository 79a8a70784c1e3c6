/- The walk of FrameSpoilt. -/
import Derived.Test.YtmhgphbafiilnaaFAlive
import Derived.Test.YtmhgphbafiilnaaFSpM
set_option linter.unusedVariables false
set_option linter.unusedSimpArgs false
namespace Go.Proofs.Ytmhgphbafiilnaa
open Go.RowKit Go.Shelf
theorem row_cap {w : World} {a : Option Addr} {len cap : Nat} {zs : List Int} (h : IsRow .u8 w a len cap zs) : len ≤ cap := by
  rcases h with ⟨rfl, rfl, rfl, rfl⟩ | ⟨x, rfl, hl, _⟩
  · exact Nat.le_refl _
  · exact hl
theorem Own8.stored {base g n c : Nat} {w : World} {xs : List Int} (h : Own8 base w (.slice (some ⟨g, 0, none⟩) n c) xs) (k : Nat) (v : Int) (hv : 0 ≤ v ∧ v < 256) : Own8 base (w.setCell ⟨g, k, none⟩ (.int .u8 v)) (.slice (some ⟨g, 0, none⟩) n c) (xs.set k v) := by
  refine ⟨fun x hx => ?_, ?_⟩
  · rcases List.mem_or_eq_of_mem_set hx with q | q
    · exact h.1 x q
    · rw [q]; exact hv
  · have hn : xs.length = n := by
      obtain ⟨_, _, e⟩ := h.form
      cases e; rfl
    have h2 := h.2
    rw [hn] at h2
    have := (h2.stored k (.int .u8 v)).1
    rw [List.length_set, hn]
    unfold vals8 at this ⊢
    rw [List.map_set]
    exact this
theorem Own8.gblock {base n c : Nat} {a : Option Addr} {w : World} {xs : List Int} (h : Own8 base w (.slice a n c) xs) (h0 : 0 < n) : ∃ g, a = some ⟨g, 0, none⟩ ∧ base ≤ g ∧ ∀ k, w.frozen? ⟨g, k, none⟩ = false := by
  rcases h.2.2 with ⟨e, e2⟩ | ⟨g, cap, cur, e, hg, hh, _⟩
  · cases e; omega
  · cases e; exact ⟨g, rfl, hg, fun k => frozen_of_row w g k cur _ hh⟩

set_option maxRecDepth 100000 in
set_option maxHeartbeats 2000000 in
theorem spoilt_g1 (a0 : Option Addr) (n0 c0 : Nat) (L : List Int) (at_ : Int) (d : Nat) (a3 : Option Addr) (n3 c3 : Nat) (Z : List Int) (w : World) (h0 : Bys8 w.heap.size w (.slice a0 n0 c0) L) (h3 : Bys8 w.heap.size w (.slice a3 n3 c3) Z) (e0 : L.length = n0) (e3 : Z.length = n3) (hc3 : n3 ≤ c3) (hd : d < 256) (hat : -9223372036854775808 ≤ at_ ∧ at_ ≤ 9223372036854775807) (hg : 4096 < n0) :
    Calls Try.prog 7 #[.slice a0 n0 c0, .int .i64 at_, .int .u8 (d : Int), .slice a3 n3 c3] w fun e w' => e = .returned (.bool true) ∧ Below w.heap.size w w' := by

  have HA := Lib.hid (alive_any w)
  have i1 : (4096 : Int) < (n0 : Int) := by omega
  clear h0 h3 e0 e3 hc3 hd hat hg
  go_enter Try.func7, Try.ntmps7
  go_wp2_with (first
    | (go_at_call 17; refine HA.out.mono ?_; rintro e w1 ⟨rfl, hB1⟩)
    | fail)
  go_ret
  exact ⟨rfl, hB1⟩

set_option maxRecDepth 100000 in
set_option maxHeartbeats 2000000 in
theorem spoilt_g2 (a0 : Option Addr) (n0 c0 : Nat) (L : List Int) (at_ : Int) (d : Nat) (a3 : Option Addr) (n3 c3 : Nat) (Z : List Int) (w : World) (h0 : Bys8 w.heap.size w (.slice a0 n0 c0) L) (h3 : Bys8 w.heap.size w (.slice a3 n3 c3) Z) (e0 : L.length = n0) (e3 : Z.length = n3) (hc3 : n3 ≤ c3) (hd : d < 256) (hat : -9223372036854775808 ≤ at_ ∧ at_ ≤ 9223372036854775807) (hg : ¬ 4096 < n0) (hg2 : 200 < n3) :
    Calls Try.prog 7 #[.slice a0 n0 c0, .int .i64 at_, .int .u8 (d : Int), .slice a3 n3 c3] w fun e w' => e = .returned (.bool true) ∧ Below w.heap.size w w' := by

  have HA := Lib.hid (alive_any w)
  have i1 : ¬ (4096 : Int) < (n0 : Int) := by omega
  have i2 : (200 : Int) < (n3 : Int) := by omega
  clear h0 h3 e0 e3 hc3 hd hat hg hg2
  go_enter Try.func7, Try.ntmps7
  go_wp2_with (first
    | (go_at_call 17; refine HA.out.mono ?_; rintro e w1 ⟨rfl, hB1⟩)
    | fail)
  go_ret
  exact ⟨rfl, hB1⟩

set_option maxRecDepth 100000 in
set_option maxHeartbeats 2000000 in
theorem spoilt_g3 (a0 : Option Addr) (n0 c0 : Nat) (L : List Int) (at_ : Int) (d : Nat) (a3 : Option Addr) (n3 c3 : Nat) (Z : List Int) (w : World) (h0 : Bys8 w.heap.size w (.slice a0 n0 c0) L) (h3 : Bys8 w.heap.size w (.slice a3 n3 c3) Z) (e0 : L.length = n0) (e3 : Z.length = n3) (hc3 : n3 ≤ c3) (hd : d < 256) (hat : -9223372036854775808 ≤ at_ ∧ at_ ≤ 9223372036854775807) (hg : ¬ 4096 < n0) (hg2 : ¬ 200 < n3) (hg3 : d = 0) :
    Calls Try.prog 7 #[.slice a0 n0 c0, .int .i64 at_, .int .u8 (d : Int), .slice a3 n3 c3] w fun e w' => e = .returned (.bool true) ∧ Below w.heap.size w w' := by

  have HA := Lib.hid (alive_any w)
  have i1 : ¬ (4096 : Int) < (n0 : Int) := by omega
  have i2 : ¬ (200 : Int) < (n3 : Int) := by omega
  have i3 : (((d : Nat) : Int) == 0) = true := by rw [hg3]; rfl
  clear h0 h3 e0 e3 hc3 hd hat hg hg2 hg3
  go_enter Try.func7, Try.ntmps7
  go_wp2_with (first
    | (go_at_call 17; refine HA.out.mono ?_; rintro e w1 ⟨rfl, hB1⟩)
    | fail)
  go_ret
  exact ⟨rfl, hB1⟩

set_option maxRecDepth 100000 in
set_option maxHeartbeats 2000000 in
theorem spoilt_nil (a0 : Option Addr) (n0 c0 : Nat) (L : List Int) (at_ : Int) (d : Nat) (a3 : Option Addr) (n3 c3 : Nat) (Z : List Int) (w : World) (h0 : Bys8 w.heap.size w (.slice a0 n0 c0) L) (h3 : Bys8 w.heap.size w (.slice a3 n3 c3) Z) (e0 : L.length = n0) (e3 : Z.length = n3) (hc3 : n3 ≤ c3) (hd : d < 256) (hat : -9223372036854775808 ≤ at_ ∧ at_ ≤ 9223372036854775807) (hg : n0 = 0) (hg2 : ¬ 200 < n3) (hg3 : d ≠ 0) :
    Calls Try.prog 7 #[.slice a0 n0 c0, .int .i64 at_, .int .u8 (d : Int), .slice a3 n3 c3] w fun e w' => e = .returned (.bool true) ∧ Below w.heap.size w w' := by
  have HA := Lib.hid (alive_any w)
  have HP := Lib.hid (fun W => put_no none 0 0 a0 n0 c0 W (by omega))
  have i1 : ¬ (4096 : Int) < (n0 : Int) := by omega
  have i2 : ¬ (200 : Int) < (n3 : Int) := by omega
  have i3 : (((d : Nat) : Int) == 0) = false := by simp; omega
  clear h0 h3 e0 e3 hc3 hd hat hg hg2 hg3
  go_enter Try.func7, Try.ntmps7
  go_wp2_with (first
    | (go_at_call 17; refine HA.out.mono ?_; rintro e w1 ⟨rfl, hB1⟩)
    | (go_at_call 11; refine (HP.out w1).mono ?_; rintro e w2 ⟨rfl, hB2⟩)
    | fail)
  go_ret
  exact ⟨rfl, hB1.trans (hB2.mono hB1.size)⟩

/-- All of one list: its frame, or nothing. -/
theorem all_one (a : Option Addr) (n c : Nat) (Z : List Int) (w W : World) (hn : Z.length = n) (hc : n ≤ c) (hl : n ≤ 1000) (h : Bys8 w.heap.size w (.slice a n c) Z) (hB : Below w.heap.size w W) :
    Calls Try.prog 9 #[.slice (some ⟨W.heap.size, 0, none⟩) 1 1] (W.alloc (.cells #[.slice a n c] 23)) fun e w' => ∃ az nz cz zs x, e = .returned (.tuple #[.slice az nz cz, .int .i64 x]) ∧ Bys8 w'.heap.size w' (.slice az nz cz) zs ∧ zs.length = nz ∧ nz ≤ 1006 ∧ Below W.heap.size W w' := by
  have hB1 : Below W.heap.size W (W.alloc (.cells #[.slice a n c] 23)) := (Below.refl _ _).alloc (Nat.le_refl _) _
  have hbs : BssAt (W.alloc (.cells #[.slice a n c] 23)).heap.size (W.alloc (.cells #[.slice a n c] 23)) (some ⟨W.heap.size, 0, none⟩) [Z] := by
    intro i L hi
    cases i with
    | succ i => simp at hi
    | zero =>
      obtain rfl : Z = L := by simpa using hi
      refine ⟨W.heap.size, 0, a, c, rfl, by simp, ?_, by omega, ?_⟩
      · rw [hn]; exact cell_of_row _ W.heap.size 0 _ _ _ (World.alloc_heap_new W _)
      · rw [hn]
        have h1 := (h.below hB).mono hB.size
        exact h1.grow hB1
  have hs : sizeN [Z] = 6 + n := by rw [sizeN_cons, hn]; rfl
  refine (all_any (some ⟨W.heap.size, 0, none⟩) 1 [Z] _ hbs (by omega) (by simp)).mono ?_
  rintro e w' (⟨_, a', c', rfl, hO, hB'⟩ | ⟨_, rfl, hB'⟩)
  · refine ⟨a', _, c', _, _, rfl, hO.bys, rfl, ?_, hB1.trans (hB'.mono hB1.size)⟩
    show sizeN [Z] ≤ _
    omega
  · exact ⟨none, 0, 0, [], _, rfl, bys8_nil _ _ _ _, rfl, by omega, hB1.trans (hB'.mono hB1.size)⟩
theorem why_ne {Y : List Int} {k : Nat} (hw : whyOf Y = k + 1) : Scans Y [] Y := ⟨by simp, (fun L hL => by cases hL), .inr (by omega)⟩
theorem read_sp (a : Option Addr) (n c : Nat) (Y : List Int) (W : World) (h : Bys8 W.heap.size W (.slice a n c) Y) (hc : n ≤ c) (hl : n ≤ 1000000) (hw : whyOf Y = 3) : Calls Try.prog 15 #[.slice a n c] W fun e w' => e = .returned (.tuple #[.slice none 0 0, .int .i64 0, .int .i64 130]) ∧ Below W.heap.size W w' := by
  refine (read_any a n c Y W h hc hl).mono ?_
  rintro e w' (⟨h0, _⟩ | ⟨_, h1⟩)
  · omega
  · exact h1
theorem read_ok (a : Option Addr) (n c : Nat) (Y : List Int) (W : World) (h : Bys8 W.heap.size W (.slice a n c) Y) (hc : n ≤ c) (hl : n ≤ 1000000) (hw : whyOf Y = 0) : Calls Try.prog 15 #[.slice a n c] W fun e w' => ∃ a' n' c' k, e = .returned (.tuple #[.slice a' n' c', .int .i64 k, .int .i64 0]) ∧ Below W.heap.size W w' := by
  refine (read_any a n c Y W h hc hl).mono ?_
  rintro e w' (⟨_, a', c', he, _, hB⟩ | ⟨h1, _⟩)
  · exact ⟨_, _, _, _, he, hB⟩
  · exact absurd hw h1
theorem scan_sp (a : Option Addr) (n c : Nat) (Y : List Int) (W : World) (h : Bys8 W.heap.size W (.slice a n c) Y) (hc : n ≤ c) (hl : Y.length ≤ 1000000) (hw : whyOf Y = 3) : Calls Try.prog 13 #[.slice a n c] W fun e w' => ∃ a' c', e = .returned (.tuple #[.slice a' 0 c', .int .i64 0]) ∧ Below W.heap.size W w' := by
  refine (scan_any a n c Y [] Y W h hc (why_ne (k := 2) hw) hl).mono ?_
  rintro e w' ⟨a', c', he, _, _, hB⟩
  exact ⟨a', c', he, hB⟩
theorem why_sp (a : Option Addr) (n c : Nat) (Y : List Int) (W : World) (h : Bys8 W.heap.size W (.slice a n c) Y) (hc : n ≤ c) (hl : Y.length ≤ 1000000) (hw : whyOf Y = 3) : Calls Try.prog 14 #[.slice a n c] W fun e w' => e = .returned (.int .i64 3) ∧ Below W.heap.size W w' := by
  have := why_any a n c Y [] Y W h hc (why_ne (k := 2) hw) hl
  have e : tailWhy Y = 3 := by
    unfold tailWhy
    rw [if_neg (fun q => by rw [q] at hw; unfold whyOf at hw; simp at hw), hw]
  rw [e] at this
  exact this
theorem tmod_mid (a M F : Int) (hM : 5 ≤ M) (hF : F = M + 2) (hs : F ≤ 5000) : 0 ≤ a.tmod M + F - 2 ∧ a.tmod M + F - 2 ≤ 10000 ∧ -5000 ≤ a.tmod M ∧ a.tmod M ≤ 5000 := by
  have h1 := Int.tmod_lt_of_pos a (show 0 < M by omega)
  have h2 := Int.lt_tmod_of_pos a (show 0 < M by omega)
  omega
theorem w_sub2 (F : Nat) (h : 7 ≤ F ∧ F ≤ 5000) : wrap64 ((F : Int) - 2) = ((F - 2 : Nat) : Int) := by unfold wrap64; omega
theorem w_small (x : Int) (h : -20000 ≤ x ∧ x ≤ 20000) : wrap64 x = x := by unfold wrap64; omega
theorem place (at_ : Int) (F : Nat) (h : 7 ≤ F ∧ F ≤ 5000) : ∃ (n : Nat) (S1 S2 : Int), wrap64 (at_.tmod ((F - 2 : Nat) : Int) + (F : Int)) = S1 ∧ wrap64 (S1 - 2) = S2 ∧ wrap64 (2 + S2.tmod ((F - 2 : Nat) : Int)) = (n : Int) ∧ 2 ≤ n ∧ n < F := by
  obtain ⟨h1, h2, h3, h4⟩ := tmod_mid at_ ((F - 2 : Nat) : Int) (F : Int) (by omega) (by omega) (by omega)
  generalize hT : at_.tmod ((F - 2 : Nat) : Int) = T at *
  have k1 := Int.tmod_lt_of_pos (T + F - 2) (show 0 < ((F - 2 : Nat) : Int) by omega)
  have k2 := Int.tmod_nonneg ((F - 2 : Nat) : Int) h1
  refine ⟨(2 + (T + F - 2).tmod ((F - 2 : Nat) : Int)).toNat, T + F, T + F - 2, w_small _ (by omega), w_small _ (by omega), ?_, ?_, ?_⟩
  · rw [w_small _ (by omega)]; omega
  · omega
  · omega

set_option maxRecDepth 100000 in
set_option maxHeartbeats 2000000 in
theorem spoilt_main (a0 : Option Addr) (n0 c0 : Nat) (L : List Int) (at_ : Int) (d : Nat) (a3 : Option Addr) (n3 c3 : Nat) (Z : List Int) (w : World) (h0 : Bys8 w.heap.size w (.slice a0 n0 c0) L) (h3 : Bys8 w.heap.size w (.slice a3 n3 c3) Z) (e0 : L.length = n0) (e3 : Z.length = n3) (hc3 : n3 ≤ c3) (hd : d < 256) (hat : -9223372036854775808 ≤ at_ ∧ at_ ≤ 9223372036854775807) (hg0 : 1 ≤ n0) (hg : ¬ 4096 < n0) (hg2 : ¬ 200 < n3) (hg3 : d ≠ 0) :
    Calls Try.prog 7 #[.slice a0 n0 c0, .int .i64 at_, .int .u8 (d : Int), .slice a3 n3 c3] w fun e w' => e = .returned (.bool true) ∧ Below w.heap.size w w' := by
  have HA := Lib.hid (alive_any w)
  have hrl : RecL L := ⟨by omega, by omega⟩
  obtain ⟨F, hF⟩ : ∃ F, (frameL L).length = F := ⟨_, rfl⟩
  have hF6 : F = 6 + n0 := by rw [← hF, frameL_len, e0]
  have hp := fun (W : World) (hB : Below w.heap.size w W) => put_nil a0 n0 c0 L W ((h0.below hB).mono hB.size) hrl
  unfold Gives at hp
  rw [hF] at hp
  have HP := Lib.hid hp
  have i1 : ¬ (4096 : Int) < (n0 : Int) := by omega
  have i2 : ¬ (200 : Int) < (n3 : Int) := by omega
  have i3 : (((d : Nat) : Int) == 0) = false := by simp; omega
  have i4 : ¬ (F : Int) < 7 := by omega
  obtain ⟨n, S1, S2, u2, u3, u4, hn2, hnF⟩ := place at_ F (by omega)
  have u1 := w_sub2 F (by omega)
  have i5 : ((((F - 2 : Nat) : Int)) == 0) = false := by simp; omega
  have i5b : ¬ (F - 2 = 0) := by omega
  have i6 : (0 : Int) ≤ (n : Int) := by omega
  have i7 : (n : Int) < (F : Int) := by omega
  obtain ⟨xb, hxb⟩ : ∃ xb, ((frameL L).getD n 0).toNat = xb := ⟨_, rfl⟩
  have hbF := frameL_byt h0.1 hrl.2
  have hnx : (frameL L)[n]? = some (xb : Int) := by
    have h1 : n < (frameL L).length := by omega
    have h2 := hbF ((frameL L).getD n 0) (by simp [List.getD, h1])
    rw [List.getElem?_eq_getElem h1]
    have : (frameL L).getD n 0 = (frameL L)[n] := by simp [List.getD, h1]
    rw [← this]
    congr 1
    omega
  have hxb8 : xb < 256 := by
    have h2 := hbF (xb : Int) (by obtain ⟨h1, h2⟩ := List.getElem?_eq_some_iff.1 hnx; rw [← h2]; exact List.getElem_mem _)
    omega
  have ux := xor8 xb d hxb8 hd
  have hY : (frameL L).set n (((xb ^^^ d : Nat)) : Int) = spoil (frameL L) n d := by unfold spoil; rw [hxb]
  have hq8 : xb ^^^ d < 256 := Nat.xor_lt_two_pow (n := 8) hxb8 hd
  generalize xb ^^^ d = q at *
  have HW := Lib.hid (fun z => spoil_why hrl h0.1 hn2 (by omega) hg3 hd z)
  have HS0 := Lib.hid (why_frame hrl [])
  have HY := Lib.hid (show (spoil (frameL L) n d).length = F by rw [spoil_len, hF])
  have HX := Lib.hid (And.intro h3 (And.intro e3 (And.intro hc3 (And.intro hF (And.intro hnx (And.intro hY (And.intro hq8 (show 7 ≤ F ∧ F ≤ 5000 ∧ n3 ≤ 200 by omega))))))))
  have i8 : (0 : Int) ≤ (xb : Int) := by omega
  have i9 : (xb : Int) < 256 := by omega
  generalize F - 2 = M at *
  generalize spoil (frameL L) n d = Y at *
  clear h0 h3 e0 e3 hc3 hd hat hg0 hg hg2 hg3 hF6 hF hp hrl hn2 hnF hbF hnx hxb8 hY hq8 hxb
  go_enter Try.func7, Try.ntmps7
  go_wp2_with (first
    | (go_at_call 17; refine HA.out.mono ?_; rintro e w1 ⟨rfl, hB1⟩)
    | (go_at_call 11; refine (HP.out w1 hB1).mono ?_; rintro e w2 ⟨ax, cx, rfl, hO2, hB2⟩
       have hB02 := hB1.trans (hB2.mono hB1.size)
       have hc2 := hO2.cap
       have x2 := hO2.bys
       have hE := Own8.empty w2
       have hBe : Below w2.heap.size w2 (w2.alloc (.cells #[] 5)) := (Below.refl _ _).alloc (Nat.le_refl _) _)
    | (at_builtin; refine bapp8N rfl (.tmp 74) (.tmp 75) rfl w2.heap.size _ [] rfl hE w2.heap.size ax _ cx (frameL L) rfl (x2.below hBe) F (by have := HX.out; simp; omega) (by have := HX.out; omega) (by simp) ?_; intro ay cy w3 hO3 hB3
       obtain ⟨gy, hay, hgy, hfy⟩ := hO3.gblock (by have := HX.out; omega)
       subst hay
       obtain ⟨gy', hgg, hcy⟩ := hO3.num (by intro e; have q1 := congrArg List.length e; rw [List.nil_append] at q1; have := HX.out; rw [this.2.2.2.1] at q1; simp at q1; omega)
       obtain rfl : gy = gy' := by cases hgg; rfl
       have cyn := hcy n (xb : Int) HX.out.2.2.2.2.1
       have fyn := hfy n
       have hS := hO3.stored n (q : Int) (by have := HX.out; omega)
       have hB03 := hBe.trans hB3
       have hB34 : Below w2.heap.size w2 (w3.setCell ⟨gy, n, none⟩ (.int .u8 (q : Int))) := hB03.setCell (p := ⟨gy, n, none⟩) hgy _
       rw [List.nil_append, HX.out.2.2.2.2.2.1] at hS
       have sz4 : (w3.setCell ⟨gy, n, none⟩ (.int .u8 (q : Int))).heap.size = w3.heap.size := World.size_setCell _ _ _
       have y4 := hS.bys
       rw [sz4] at y4
       have hcy4 := hS.cap
       have hB04 : Below w.heap.size w (w3.setCell ⟨gy, n, none⟩ (.int .u8 (q : Int))) := hB02.trans (hB34.mono hB02.size)
       have hal := all_one a3 n3 c3 Z w _ HX.out.2.1 HX.out.2.2.1 (by have := HX.out; omega) HX.out.1 hB04
       rw [sz4] at hal
       clear hcy hfy hS hO3 hB3)
    | (go_at_call 9; refine hal.mono ?_; rintro e w5 ⟨az, nz, cz, zs, xz, rfl, z5, hzl, hzs, hB5⟩
       have s5 : w3.heap.size ≤ w5.heap.size := Nat.le_trans (Nat.le_of_eq sz4.symm) hB5.size
       have y5 := (y4.below hB5).mono s5
       have hB05 := hB04.trans (hB5.mono (Nat.le_trans hB04.size (Nat.le_of_eq sz4)))
       have hB25 := hB34.trans (hB5.mono (Nat.le_trans hB34.size (Nat.le_of_eq sz4)))
       have hrd := read_sp _ F cy Y w5 y5 hcy4 (by have := HX.out; omega) (by simpa using HW.out [])
       clear hal)
    | (go_at_call 15; refine hrd.mono ?_; rintro e w6 ⟨rfl, hB6⟩
       have y6 := y5.grow hB6
       have z6 := z5.grow hB6
       have hB06 := hB05.trans (hB6.mono hB05.size)
       have hB26 := hB25.trans (hB6.mono hB25.size)
       have hE6 := Own8.empty w6
       have hBe6 : Below w6.heap.size w6 (w6.alloc (.cells #[] 5)) := (Below.refl _ _).alloc (Nat.le_refl _) _
       clear hrd y5 z5)
    | (at_builtin; refine bapp8N rfl (.tmp 99) (.tmp 100) rfl w6.heap.size _ [] rfl hE6 w6.heap.size _ _ cy Y rfl (y6.below hBe6) F (by rw [List.nil_append]; exact HY.out) (by have := HX.out; omega) (by simp) ?_; intro a7 c7 w7 hO7 hB7
       have hB67 := hBe6.trans hB7)
    | (at_builtin; refine bapp8N rfl (.tmp 101) (.tmp 102) rfl w6.heap.size _ ([] ++ Y) rfl hO7 w6.heap.size az _ cz zs rfl (z6.below hB67) (F + nz) (by have := HY.out; simp; omega) (by have := HX.out; omega) hB67.size ?_; intro a8 c8 w8 hO8 hB8
       have hB68 := hB67.trans hB8
       have hsc := scan_sp a8 (F + nz) c8 _ w8 hO8.bys hO8.cap (by have := HY.out; have := HX.out; simp; omega) (HW.out zs))
    | (go_at_call 13; refine hsc.mono ?_; rintro e w9 ⟨a9, c9, rfl, hB9⟩
       have hB69 := hB68.trans (hB9.mono hB68.size)
       have y9 := y6.grow hB69
       have hB09 := hB06.trans (hB69.mono hB06.size)
       have x9 := x2.grow (hB26.trans (hB69.mono hB26.size))
       have hrx := read_ok ax F cx (frameL L) w9 x9 hc2 (by have := HX.out; omega) (by simpa using HS0.out)
       clear hsc)
    | (go_at_call 15; refine hrx.mono ?_; rintro e w10 ⟨a10, n10, c10, k10, rfl, hB10⟩
       have hB010 := hB09.trans (hB10.mono hB09.size)
       have hwy := why_sp _ F cy Y w10 (y9.grow hB10) hcy4 (by have := HY.out; have := HX.out; omega) (by simpa using HW.out []))
    | (go_at_call 14; refine hwy.mono ?_; rintro e w11 ⟨rfl, hB11⟩)
    | fail)
  go_ret
  exact ⟨rfl, hB010.trans (hB11.mono hB010.size)⟩

theorem bounds_i64 {n : Int} (h : (Lit.int .i64 n).wf = true) : -9223372036854775808 ≤ n ∧ n ≤ 9223372036854775807 := by
  simp [Lit.wf, IntKind.min, IntKind.max, IntKind.bits, IntKind.signed] at h; omega
theorem spoiltW (a0 : Option Addr) (n0 c0 : Nat) (z0 : List Int) (at_ d : Int) (a3 : Option Addr) (n3 c3 : Nat) (z3 : List Int) (w : World) (w0 : IsRow .u8 w a0 n0 c0 z0) (w1 : (Lit.int .i64 at_).wf = true) (w2 : (Lit.int .u8 d).wf = true) (w3 : IsRow .u8 w a3 n3 c3 z3) :
    Calls Try.prog 7 #[.slice a0 n0 c0, .int .i64 at_, .int .u8 d, .slice a3 n3 c3] w fun e w' => e = .returned (.bool true) ∧ Below w.heap.size w w' := by
  obtain ⟨L, e0, h0⟩ := bys8_of_row w0
  obtain ⟨Z, e3, h3⟩ := bys8_of_row w3
  have hc3 := row_cap w3
  have hat := bounds_i64 w1
  have hd := bounds_u8 w2
  obtain ⟨d, rfl⟩ : ∃ k : Nat, d = k := ⟨d.toNat, by omega⟩
  have hd' : d < 256 := by omega
  by_cases g1 : 4096 < n0
  · exact spoilt_g1 a0 n0 c0 L at_ d a3 n3 c3 Z w h0 h3 e0 e3 hc3 hd' hat g1
  · by_cases g2 : 200 < n3
    · exact spoilt_g2 a0 n0 c0 L at_ d a3 n3 c3 Z w h0 h3 e0 e3 hc3 hd' hat g1 g2
    · by_cases g3 : d = 0
      · exact spoilt_g3 a0 n0 c0 L at_ d a3 n3 c3 Z w h0 h3 e0 e3 hc3 hd' hat g1 g2 g3
      · by_cases g4 : n0 = 0
        · exact spoilt_nil a0 n0 c0 L at_ d a3 n3 c3 Z w h0 h3 e0 e3 hc3 hd' hat g4 g2 g3
        · exact spoilt_main a0 n0 c0 L at_ d a3 n3 c3 Z w h0 h3 e0 e3 hc3 hd' hat (by omega) g1 g2 g3

end Go.Proofs.Ytmhgphbafiilnaa