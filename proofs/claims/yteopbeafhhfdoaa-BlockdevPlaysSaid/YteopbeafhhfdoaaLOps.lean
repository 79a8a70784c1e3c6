/- Calls, as they lie in memory; Great; their bytes. -/
import Derived.Test.YteopbeafhhfdoaaLSt
set_option linter.unusedVariables false
set_option linter.unusedSimpArgs false
namespace Go.Proofs.Yteopbeafhhfdoaa
open Go.RowKit
structure Opn where
  kind : Int
  n : Int
  b : Int
  len : Int
  ka : Option Addr
  kc : Nat
  K : List Int
  torn : Int
  at_ : Int
def opC (x : Opn) : Array Value := #[.int .i64 x.kind, .int .i64 x.n, .int .u8 x.b, .int .i64 x.len, .slice x.ka x.K.length x.kc, .int .i64 x.torn, .int .i64 x.at_]
def i64 (x : Int) : Prop := -9223372036854775808 ≤ x ∧ x ≤ 9223372036854775807
structure OpnIs (x : Opn) : Prop where
  n : i64 x.n
  b : 0 ≤ x.b ∧ x.b < 256
  len : i64 x.len
/-- The calls lie from a on, in a block below B, and what they name too. -/
def OpsAt (B : Nat) (W : World) (a : Option Addr) (len : Nat) (L : Nat → Opn) : Prop :=
  ∀ i, i < len → ∃ b o, a = some ⟨b, o, none⟩ ∧ b < B ∧ (W.cell? ⟨b, o + i * 7, none⟩ = some (.int .i64 (L i).kind) ∧ W.cell? ⟨b, o + i * 7 + 1, none⟩ = some (.int .i64 (L i).n) ∧ W.cell? ⟨b, o + i * 7 + 2, none⟩ = some (.int .u8 (L i).b) ∧ W.cell? ⟨b, o + i * 7 + 3, none⟩ = some (.int .i64 (L i).len) ∧
    W.cell? ⟨b, o + i * 7 + 4, none⟩ = some (.slice (L i).ka (L i).K.length (L i).kc) ∧ W.cell? ⟨b, o + i * 7 + 5, none⟩ = some (.int .i64 (L i).torn) ∧ W.cell? ⟨b, o + i * 7 + 6, none⟩ = some (.int .i64 (L i).at_)) ∧ Bys8 B W (.slice (L i).ka (L i).K.length (L i).kc) (L i).K ∧ OpnIs (L i)
theorem OpsAt.next {B : Nat} {W X : World} {a : Option Addr} {len : Nat} {L : Nat → Opn} (h : OpsAt B W a len L) (hB : Below B W X) : OpsAt B X a len L := by
  intro i hi
  obtain ⟨b, o, e, hb, ⟨h0, h1, h2, h3, h4, h5, h6⟩, hK, hO⟩ := h i hi
  have hx : ∀ k, X.cell? ⟨b, k, none⟩ = W.cell? ⟨b, k, none⟩ := fun k => hB.cell (p := ⟨b, k, none⟩) hb
  exact ⟨b, o, e, hb, ⟨(hx _).trans h0, (hx _).trans h1, (hx _).trans h2, (hx _).trans h3, (hx _).trans h4, (hx _).trans h5, (hx _).trans h6⟩, hK.below hB, hO⟩
/-- No more than the statements go through. -/
def GreatIs (len : Nat) (L : Nat → Opn) : Prop := len ≤ 400 ∧ ∀ i, i < len → (L i).K.length ≤ 64 ∧ (L i).len ≤ 300
def GreatE (len : Nat) (L : Nat → Opn) (e : Ending) : Prop := (GreatIs len L ∧ e = .returned (.int .i64 0)) ∨ (¬ GreatIs len L ∧ e = .returned (.int .i64 1))
set_option maxRecDepth 100000 in
set_option maxHeartbeats 1000000 in
theorem great_any (B : Nat) (a : Option Addr) (len cap : Nat) (L : Nat → Opn) (w : World) (hA : OpsAt B w a len L) :
    Calls Try.prog 7 #[.slice a len cap] w fun e w' => GreatE len L e ∧ w = w' := by
  by_cases hlen : len ≤ 400
  · have i0 : ¬ ((400 : Int) < (len : Int)) := by omega
    have HA := Lib.hid hA
    have HL := Lib.hid hlen
    clear hA hlen
    go_enter Try.func7, Try.ntmps7
    go_wp2
    go_loopw [9] (fun i wr => ∃ k : Nat, k ≤ len ∧ i = .int .i64 (k : Int) ∧ wr = w ∧ ∀ j, j < k → (L j).K.length ≤ 64 ∧ (L j).len ≤ 300) (fun i _ => (len - intOf i).toNat)
    case atStart => exact ⟨0, Nat.zero_le _, rfl, rfl, fun j hj => by cases hj⟩
    case round =>
      obtain ⟨k, hk, rfl, rfl, hj⟩ := hrel
      by_cases hlt : k < len
      · have i1 : (k : Int) < len := by omega
        have in0 : (0 : Int) ≤ (k : Int) := by omega
        have wk : wrap64 ((k : Int) + 1) = ((k + 1 : Nat) : Int) := by have := HL.out; unfold wrap64; omega
        obtain ⟨b, o, rfl, hb, ⟨h0, h1, h2, h3, h4, h5, h6⟩, hK, hO⟩ := HA.out k hlt
        have HK := Lib.hid hlt
        by_cases c1 : (L k).K.length ≤ 64
        · have j1 : ¬ ((64 : Int) < ((L k).K.length : Int)) := by omega
          by_cases c2 : (L k).len ≤ 300
          · have j2 : ¬ ((300 : Int) < (L k).len) := by omega
            have HJ := Lib.hid (show ∀ j, j < k + 1 → (L j).K.length ≤ 64 ∧ (L j).len ≤ 300 from fun j hj2 => by
              by_cases e : j = k
              · rw [e]; exact ⟨c1, c2⟩
              · exact hj j (by omega))
            clear hj c1 c2 hK hO hb hk hlt h0 h1 h2 h5 h6
            go_wp2
            go_roundw
            case rel => exact ⟨k + 1, HK.out, by first | rfl | rw [wk], by first | rfl | trivial, HJ.out⟩
            case measure =>
              have hk2 := HK.out
              first
                | (show ((len : Int) - intOf (.int .i64 (wrap64 ((k : Int) + 1)))).toNat < ((len : Int) - intOf (.int .i64 (k : Int))).toNat; rw [wk])
                | (show ((len : Int) - intOf (.int .i64 ((k + 1 : Nat) : Int))).toNat < ((len : Int) - intOf (.int .i64 (k : Int))).toNat)
                | (show ((len : Int) - intOf (.int .i64 ((k : Int) + 1))).toNat < ((len : Int) - intOf (.int .i64 (k : Int))).toNat)
              first
                | (show ((len : Int) - ((k + 1 : Nat) : Int)).toNat < ((len : Int) - ((k : Nat) : Int)).toNat; omega)
                | (show ((len : Int) - ((k : Int) + 1)).toNat < ((len : Int) - ((k : Nat) : Int)).toNat; omega)
          · have j2 : (300 : Int) < (L k).len := by omega
            have HG := Lib.hid (show GreatE len L (.returned (.int .i64 1)) from .inr ⟨fun q => c2 (q.2 k hlt).2, rfl⟩)
            clear hj c1 c2 hK hO hb hk hlt h0 h1 h2 h5 h6
            go_wp2
            go_ret
            exact ⟨HG.out, rfl⟩
        · have j1 : (64 : Int) < ((L k).K.length : Int) := by omega
          have HG := Lib.hid (show GreatE len L (.returned (.int .i64 1)) from .inr ⟨fun q => c1 (q.2 k hlt).1, rfl⟩)
          clear hj c1 hK hO hb hk hlt h0 h1 h2 h3 h5 h6
          go_wp2
          go_ret
          exact ⟨HG.out, rfl⟩
      · have hke : k = len := by omega
        subst hke
        have i1 : ¬ ((k : Int) < k) := by omega
        have HG := Lib.hid (show GreatE k L (.returned (.int .i64 0)) from .inl ⟨⟨HL.out, hj⟩, rfl⟩)
        clear hj hk hlt
        go_wp2
        go_ret
        exact ⟨HG.out, rfl⟩
  · have i0 : (400 : Int) < (len : Int) := by omega
    have HG := Lib.hid (show GreatE len L (.returned (.int .i64 1)) from .inr ⟨fun q => hlen q.1, rfl⟩)
    clear hA hlen
    go_enter Try.func7, Try.ntmps7
    go_wp2
    go_ret
    exact ⟨HG.out, rfl⟩
def bytesN (x : Opn) : Nat := if 0 < x.len then x.len.toNat else 128
def bytesF (x : Opn) (i : Nat) : Int := (x.b + ((i / 16 : Nat) : Int)) % 256
def bytesL (x : Opn) : List Int := (List.range (bytesN x)).map (bytesF x)
theorem bytesF_in (x : Opn) (i : Nat) : 0 ≤ bytesF x i ∧ bytesF x i < 256 := by unfold bytesF; omega
theorem bytesL_len (x : Opn) : (bytesL x).length = bytesN x := by simp [bytesL]
theorem bytesL_in (x : Opn) : ∀ y ∈ bytesL x, 0 ≤ y ∧ y < 256 := fun y hy => by
  obtain ⟨i, _, rfl⟩ := List.mem_map.1 hy
  exact bytesF_in x i
set_option maxRecDepth 100000 in
set_option maxHeartbeats 1000000 in
theorem bytes_any (x : Opn) (hx : OpnIs x) (hl : x.len ≤ 300) (w : World) : Calls Try.prog 27 #[.agg (opC x)] w fun e w' => RowE w w' (bytesN x) (bytesF x) e := by
  obtain ⟨i0, hi, hz0, hz1, hz2⟩ := parts8
  have HI0 := Lib.hid hi
  have HZ0 := Lib.hid hz0
  have HZ1 := Lib.hid hz1
  have HZ2 := Lib.hid hz2
  have HX := Lib.hid hx.b
  obtain ⟨X, hX⟩ : ∃ X, X = w.alloc (.cells (opC x) 36) := ⟨_, rfl⟩
  have hBX : Below w.heap.size w X := by rw [hX]; exact (Below.refl _ w).alloc (Nat.le_refl _) _
  have hsX : X.heap.size = w.heap.size + 1 := by rw [hX, World.size_alloc]
  have hat : At 36 X w.heap.size (opC x) := by rw [hX]; exact At.new _ w _
  obtain ⟨n, hn⟩ : ∃ n, bytesN x = n := ⟨_, rfl⟩
  have hn300 : 0 < n ∧ n ≤ 300 := by rw [← hn]; unfold bytesN; split <;> omega
  rw [hn]
  have l3 : X.cell? ⟨w.heap.size, 3, none⟩ = some (.int .i64 x.len) := hat.cell 3
  have HXX := Lib.hid hX
  have HH := Lib.hid (And.intro hBX (And.intro hsX (And.intro hat hn300)))
  have HN := Lib.hid hn
  clear hi hz0 hz1 hz2 hX hBX hsX hat hn hn300
  by_cases h0 : 0 < x.len
  · have HLEN := Lib.hid (show x.len = (n : Int) by rw [← HN.out]; unfold bytesN; rw [if_pos h0]; omega)
    clear hl hx
    unfold opC at l3 HXX ⊢
    go_enter Try.func27, Try.ntmps27
    go_wp2_with (at_make; refine wpList_make_full _ rfl _ _ 32 rfl 0 5 i0 (.int .u8 0) 1 Try.underlying32 HI0.out HZ0.out HZ1.out .i64 .i64 _ _ n rfl rfl (by first | rfl | exact HLEN.out) (by first | rfl | exact HLEN.out) (by rw [HZ2.out]; have := HH.out.2.2.2; omega) (by have := HH.out.2.2.2; unfold maxLen; omega) (Nat.zero_le _) ?_)
    intro w1 hO1 hG1
    rw [← HXX.out] at hG1
    obtain ⟨hBX, hsX, hat, hn0, hn300⟩ := HH.out
    have hB1 : Below (w.heap.size + 1) X w1 := (Below.refl _ _).grown hG1 (by omega) (by simp)
    have hP1 : Row8 (w.heap.size + 1) n (fun _ => 0) w1 := Row8.of_owns hO1 (fun j hj => by have := made8_zero n j hj; simpa [Value.cells] using this)
    have hlt1 : (w.heap.size + 1) < w1.heap.size := (hO1.lt _ rfl).2
    have ha1 : At 36 w1 w.heap.size (opC x) := hat.below (by omega) hB1
    have HREL0 := Lib.hid (And.intro (hP1.congr (f' := fun j => if j < 0 then bytesF x j else 0) (fun j _ => by simp)) (And.intro hlt1 (And.intro ha1 (hBX.trans (hB1.mono (by omega))))))
    clear hO1 hG1 hBX hat hB1 hP1 hlt1 ha1
    go_wp2
    go_loopw [15] (fun i wr => ∃ k : Nat, k ≤ n ∧ i = .int .i64 (k : Int) ∧ Row8 (w.heap.size + 1) n (fun j => if j < k then bytesF x j else 0) wr ∧ (w.heap.size + 1) < wr.heap.size ∧ At 36 wr w.heap.size (opC x) ∧ Below w.heap.size w wr) (fun i _ => (n - intOf i).toNat)
    case atStart => exact ⟨0, Nat.zero_le _, rfl, HREL0.out⟩
    case round =>
      obtain ⟨k, hk, rfl, hP, hlt, hat, hB⟩ := hrel
      by_cases hkn : k < n
      · have i1 : (k : Int) < n := by omega
        have in0 : (0 : Int) ≤ (k : Int) := by omega
        have wk : wrap64 ((k : Int) + 1) = ((k + 1 : Nat) : Int) := by unfold wrap64; omega
        have td : (k : Int).tdiv 16 = ((k / 16 : Nat) : Int) := by rw [Int.tdiv_eq_ediv_of_nonneg (by omega)]; omega
        have wd : wrap64 ((k / 16 : Nat) : Int) = ((k / 16 : Nat) : Int) := wrap64_nat _ (by omega)
        obtain ⟨c1, f1⟩ := hP k hkn
        have c2 : wr.cell? ⟨w.heap.size, 2, none⟩ = some (.int .u8 x.b) := hat.cell 2
        have HP := Lib.hid hP
        have HK := Lib.hid (And.intro hkn hlt)
        have HAT := Lib.hid hat
        have HB := Lib.hid hB
        clear hP hlt hat hB hkn hk
        have HREL := Lib.hid (show Row8 (w.heap.size + 1) n (fun j => if j < k + 1 then bytesF x j else 0) (wr.setCell ⟨w.heap.size + 1, k, none⟩ (.int .u8 (bytesF x k))) ∧ w.heap.size + 1 < (wr.setCell ⟨w.heap.size + 1, k, none⟩ (.int .u8 (bytesF x k))).heap.size ∧ At 36 (wr.setCell ⟨w.heap.size + 1, k, none⟩ (.int .u8 (bytesF x k))) w.heap.size (opC x) ∧ Below w.heap.size w (wr.setCell ⟨w.heap.size + 1, k, none⟩ (.int .u8 (bytesF x k))) from
          ⟨(HP.out.set k (bytesF x k)).congr (fun j _ => by
            by_cases e : j = k
            · rw [if_pos e, if_pos (by omega), e]
            · rw [if_neg e]
              by_cases e2 : j < k
              · rw [if_pos e2, if_pos (by omega)]
              · rw [if_neg e2, if_neg (by omega)]), by rw [World.size_setCell]; exact HK.out.2, HAT.out.other _ (by show w.heap.size ≠ w.heap.size + 1; omega), HB.out.setCell (p := ⟨w.heap.size + 1, k, none⟩) (by show w.heap.size ≤ w.heap.size + 1; omega) _⟩)
        clear HP HAT HB
        go_wp2
        go_roundw
        case rel => exact ⟨k + 1, HK.out.1, by first | rfl | rw [wk], HREL.out⟩
        case measure =>
          have hk2 := HK.out.1
          first
            | (show ((n : Int) - intOf (.int .i64 (wrap64 ((k : Int) + 1)))).toNat < ((n : Int) - intOf (.int .i64 (k : Int))).toNat; rw [wk])
            | (show ((n : Int) - intOf (.int .i64 ((k + 1 : Nat) : Int))).toNat < ((n : Int) - intOf (.int .i64 (k : Int))).toNat)
            | (show ((n : Int) - intOf (.int .i64 ((k : Int) + 1))).toNat < ((n : Int) - intOf (.int .i64 (k : Int))).toNat)
          first
            | (show ((n : Int) - ((k + 1 : Nat) : Int)).toNat < ((n : Int) - ((k : Nat) : Int)).toNat; omega)
            | (show ((n : Int) - ((k : Int) + 1)).toNat < ((n : Int) - ((k : Nat) : Int)).toNat; omega)
      · have hke : k = n := by omega
        subst hke
        have i1 : ¬ ((k : Int) < k) := by omega
        have HX2 := Lib.hid (show RowE w wr k (bytesF x) (.returned (.slice (some ⟨(w.heap.size + 1), 0, none⟩) k k)) from ⟨(w.heap.size + 1), by omega, hlt, rfl, hP.congr (fun j hj => if_pos hj), hB⟩)
        clear hP hlt hat hB hk hkn
        go_wp2
        go_ret
        exact HX2.out
  · have HLEN := Lib.hid (show (128 : Int) = (n : Int) by rw [← HN.out]; unfold bytesN; rw [if_neg h0]; rfl)
    clear hl hx
    unfold opC at l3 HXX ⊢
    go_enter Try.func27, Try.ntmps27
    go_wp2_with (at_make; refine wpList_make_full _ rfl _ _ 32 rfl 0 5 i0 (.int .u8 0) 1 Try.underlying32 HI0.out HZ0.out HZ1.out .i64 .i64 _ _ n rfl rfl (by first | rfl | exact HLEN.out) (by first | rfl | exact HLEN.out) (by rw [HZ2.out]; have := HH.out.2.2.2; omega) (by have := HH.out.2.2.2; unfold maxLen; omega) (Nat.zero_le _) ?_)
    intro w1 hO1 hG1
    rw [← HXX.out] at hG1
    obtain ⟨hBX, hsX, hat, hn0, hn300⟩ := HH.out
    have hB1 : Below (w.heap.size + 1) X w1 := (Below.refl _ _).grown hG1 (by omega) (by simp)
    have hP1 : Row8 (w.heap.size + 1) n (fun _ => 0) w1 := Row8.of_owns hO1 (fun j hj => by have := made8_zero n j hj; simpa [Value.cells] using this)
    have hlt1 : (w.heap.size + 1) < w1.heap.size := (hO1.lt _ rfl).2
    have ha1 : At 36 w1 w.heap.size (opC x) := hat.below (by omega) hB1
    have HREL0 := Lib.hid (And.intro (hP1.congr (f' := fun j => if j < 0 then bytesF x j else 0) (fun j _ => by simp)) (And.intro hlt1 (And.intro ha1 (hBX.trans (hB1.mono (by omega))))))
    clear hO1 hG1 hBX hat hB1 hP1 hlt1 ha1
    go_wp2
    go_loopw [15] (fun i wr => ∃ k : Nat, k ≤ n ∧ i = .int .i64 (k : Int) ∧ Row8 (w.heap.size + 1) n (fun j => if j < k then bytesF x j else 0) wr ∧ (w.heap.size + 1) < wr.heap.size ∧ At 36 wr w.heap.size (opC x) ∧ Below w.heap.size w wr) (fun i _ => (n - intOf i).toNat)
    case atStart => exact ⟨0, Nat.zero_le _, rfl, HREL0.out⟩
    case round =>
      obtain ⟨k, hk, rfl, hP, hlt, hat, hB⟩ := hrel
      by_cases hkn : k < n
      · have i1 : (k : Int) < n := by omega
        have in0 : (0 : Int) ≤ (k : Int) := by omega
        have wk : wrap64 ((k : Int) + 1) = ((k + 1 : Nat) : Int) := by unfold wrap64; omega
        have td : (k : Int).tdiv 16 = ((k / 16 : Nat) : Int) := by rw [Int.tdiv_eq_ediv_of_nonneg (by omega)]; omega
        have wd : wrap64 ((k / 16 : Nat) : Int) = ((k / 16 : Nat) : Int) := wrap64_nat _ (by omega)
        obtain ⟨c1, f1⟩ := hP k hkn
        have c2 : wr.cell? ⟨w.heap.size, 2, none⟩ = some (.int .u8 x.b) := hat.cell 2
        have HP := Lib.hid hP
        have HK := Lib.hid (And.intro hkn hlt)
        have HAT := Lib.hid hat
        have HB := Lib.hid hB
        clear hP hlt hat hB hkn hk
        have HREL := Lib.hid (show Row8 (w.heap.size + 1) n (fun j => if j < k + 1 then bytesF x j else 0) (wr.setCell ⟨w.heap.size + 1, k, none⟩ (.int .u8 (bytesF x k))) ∧ w.heap.size + 1 < (wr.setCell ⟨w.heap.size + 1, k, none⟩ (.int .u8 (bytesF x k))).heap.size ∧ At 36 (wr.setCell ⟨w.heap.size + 1, k, none⟩ (.int .u8 (bytesF x k))) w.heap.size (opC x) ∧ Below w.heap.size w (wr.setCell ⟨w.heap.size + 1, k, none⟩ (.int .u8 (bytesF x k))) from
          ⟨(HP.out.set k (bytesF x k)).congr (fun j _ => by
            by_cases e : j = k
            · rw [if_pos e, if_pos (by omega), e]
            · rw [if_neg e]
              by_cases e2 : j < k
              · rw [if_pos e2, if_pos (by omega)]
              · rw [if_neg e2, if_neg (by omega)]), by rw [World.size_setCell]; exact HK.out.2, HAT.out.other _ (by show w.heap.size ≠ w.heap.size + 1; omega), HB.out.setCell (p := ⟨w.heap.size + 1, k, none⟩) (by show w.heap.size ≤ w.heap.size + 1; omega) _⟩)
        clear HP HAT HB
        go_wp2
        go_roundw
        case rel => exact ⟨k + 1, HK.out.1, by first | rfl | rw [wk], HREL.out⟩
        case measure =>
          have hk2 := HK.out.1
          first
            | (show ((n : Int) - intOf (.int .i64 (wrap64 ((k : Int) + 1)))).toNat < ((n : Int) - intOf (.int .i64 (k : Int))).toNat; rw [wk])
            | (show ((n : Int) - intOf (.int .i64 ((k + 1 : Nat) : Int))).toNat < ((n : Int) - intOf (.int .i64 (k : Int))).toNat)
            | (show ((n : Int) - intOf (.int .i64 ((k : Int) + 1))).toNat < ((n : Int) - intOf (.int .i64 (k : Int))).toNat)
          first
            | (show ((n : Int) - ((k + 1 : Nat) : Int)).toNat < ((n : Int) - ((k : Nat) : Int)).toNat; omega)
            | (show ((n : Int) - ((k : Int) + 1)).toNat < ((n : Int) - ((k : Nat) : Int)).toNat; omega)
      · have hke : k = n := by omega
        subst hke
        have i1 : ¬ ((k : Int) < k) := by omega
        have HX2 := Lib.hid (show RowE w wr k (bytesF x) (.returned (.slice (some ⟨(w.heap.size + 1), 0, none⟩) k k)) from ⟨(w.heap.size + 1), by omega, hlt, rfl, hP.congr (fun j hj => if_pos hj), hB⟩)
        clear hP hlt hat hB hk hkn
        go_wp2
        go_ret
        exact HX2.out
end Go.Proofs.Yteopbeafhhfdoaa
