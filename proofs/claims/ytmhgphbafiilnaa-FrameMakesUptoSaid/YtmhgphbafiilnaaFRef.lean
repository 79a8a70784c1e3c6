/- The document's frame, and All. -/
import Derived.Test.YtmhgphbafiilnaaFAll
import Derived.Test.YtmhgphbafiilnaaCRef32
set_option linter.unusedVariables false
set_option linter.unusedSimpArgs false
namespace Go.Proofs.Ytmhgphbafiilnaa
open Go.RowKit Go.Shelf
theorem made_of {zs : List Int} {w w' : World} {a : Option Addr} {c N : Nat} (hN : zs.length = N) (hO : Own8 w.heap.size w' (.slice a N c) zs) (hB : Below w.heap.size w w') : Made zs w (.returned (.slice a N c)) w' := by
  subst hN; exact ⟨a, c, rfl, hO, hB⟩
set_option maxRecDepth 100000 in
set_option maxHeartbeats 2000000 in
theorem rframe_any (a : Option Addr) (n c : Nat) (L : List Int) (w : World) (hI : Bys8 w.heap.size w (.slice a n c) L) (hL : L.length ≤ 4096) :
    Calls Try.prog 21 #[.slice a n c] w (Made (frameL L) w) := by
  obtain ⟨a1, c1, e1⟩ := hI.is
  cases e1
  obtain ⟨G, hG⟩ : ∃ G, w.heap.size + 1 = G := ⟨_, rfl⟩
  have hlen := frameL_len L
  have hb2 := len2_byt hL
  have hb4 := be4_byt (crcOf_lt L)
  have hS := crcOf_lt L
  have HF := Lib.hid (show frameL L = len2 L.length ++ be4 (crcOf L) ++ L from rfl)
  have HS := Lib.hid (fun (W : World) (n₀ : Nat) (v : Option Addr) (N c : Nat) (h1 : Bys8 n₀ W (.slice v N c) (len2 L.length ++ L)) => show Calls Try.prog 26 #[.int .u32 0, .slice v N c] W fun e w' => e = .returned (.int .u32 (crcOf L : Nat)) ∧ W = w' from
    ref32_any n₀ 0 (by decide) v N c _ (by simp [len2]; omega) W h1)
  have J2 := Lib.hid (fun (W : World) => bys8_alloc (T := 5) W (len2 L.length) hb2 #[.int .u8 ((L.length / 256 : Nat) : Int), .int .u8 ((L.length % 256 : Nat) : Int)] rfl 2 2 rfl (0, 0))
  have J4 := Lib.hid (fun (W : World) => bys8_alloc (T := 5) W (be4 (crcOf L)) hb4 #[.int .u8 ((crcOf L / 16777216 : Nat) : Int), .int .u8 ((crcOf L / 65536 % 256 : Nat) : Int), .int .u8 ((crcOf L / 256 % 256 : Nat) : Int), .int .u8 ((crcOf L % 256 : Nat) : Int)] rfl 4 4 rfl (0, 0))
  have l2 : (len2 L.length).length = 2 := rfl
  have l4 : (be4 (crcOf L)).length = 4 := rfl
  generalize crcOf L = S at *
  generalize hm : L.length = m at *
  have h1 : IntKind.u8.wrap ((S : Int) / 16777216) = ((S / 16777216 : Nat) : Int) := by rw [wrap8]; omega
  have h2 : IntKind.u8.wrap ((S : Int) / 65536 % 256) = ((S / 65536 % 256 : Nat) : Int) := by rw [wrap8]; omega
  have h3 : IntKind.u8.wrap ((S : Int) / 256 % 256) = ((S / 256 % 256 : Nat) : Int) := by rw [wrap8]; omega
  have h4 : IntKind.u8.wrap ((S : Int) % 256) = ((S % 256 : Nat) : Int) := by rw [wrap8]; omega
  have h1b : (S : Int) / 16777216 % 256 = ((S / 16777216 : Nat) : Int) := by omega
  have hwq : wrap64 ((m : Int) / 256) = (m : Int) / 256 := by unfold wrap64; omega
  have h5 : IntKind.u8.wrap ((m : Int) / 256) = ((m / 256 : Nat) : Int) := by rw [wrap8]; omega
  have h6 : IntKind.u8.wrap ((m : Int) % 256) = ((m % 256 : Nat) : Int) := by rw [wrap8]; omega
  generalize be4 S = B4 at *
  generalize len2 m = B2 at *
  generalize S / 16777216 = p at *
  generalize S / 65536 % 256 = q at *
  generalize S / 256 % 256 = r at *
  generalize S % 256 = t at *
  generalize m / 256 = u at *
  generalize m % 256 = v at *
  have HL := Lib.hid (And.intro hL (And.intro l2 (And.intro l4 (And.intro hlen hm))))
  have hB1 : Below w.heap.size w (w.alloc (.cells #[.int .u8 u, .int .u8 v] 5)) := (Below.refl _ _).alloc (Nat.le_refl _) _
  have HB1 := Lib.hid hB1
  have HI := Lib.hid hI
  have HG := Lib.hid (show (w.alloc (.cells #[.int .u8 u, .int .u8 v] 5)).heap.size = G by rw [World.size_alloc, hG])
  have HGw := Lib.hid (show w.heap.size ≤ G by omega)
  have hk2 := J2.out w
  rw [HG.out] at hk2
  have HK2 := Lib.hid hk2
  clear hI hL hS hb2 hb4 hlen l2 l4 hB1 hm hG hk2
  go_enter Try.func21, Try.ntmps21
  go_wp2_with (first
    | (at_builtin; refine bapp8N rfl (.tmp 17) (.tmp 18) rfl G _ [] rfl (Own8.nil _ _) _ _ 2 2 B2 rfl HK2.out 2 (by have := HL.out; simp; omega) (by omega) (Nat.le_of_eq HG.out.symm) ?_; intro a2 c2 w2 hO2 hB2)
    | (at_builtin; refine bapp8N rfl (.tmp 20) (.tmp 21) rfl G _ ([] ++ B2) rfl hO2 w.heap.size a _ c L rfl (HI.out.below (HB1.out.trans (hB2.mono HGw.out))) (2 + m) (by have := HL.out; simp; omega) (by have := HL.out; omega) (Nat.le_trans (Nat.le_of_eq HG.out.symm) hB2.size) ?_; intro a3 c3 w3 hO3 hB3
       have hB03 := hB2.trans hB3)
    | (go_at_call 26; refine (HS.out _ _ _ _ _ hO3.bys).mono ?_; rintro e w4 ⟨rfl, rfl⟩
       have hE := Own8.empty w3
       have hg3 : G ≤ w3.heap.size := Nat.le_trans (Nat.le_of_eq HG.out.symm) hB03.size
       have hB04 := hB03.alloc hg3 (.cells #[] 5)
       have hg4 : G ≤ (w3.alloc (.cells #[] 5)).heap.size := Nat.le_trans (Nat.le_of_eq HG.out.symm) hB04.size)
    | (at_builtin; refine bapp8N rfl (.tmp 25) (.tmp 26) rfl G _ [] rfl (hE.le hg3) _ _ 2 2 B2 rfl (HK2.out.below hB04) 2 (by have := HL.out; simp; omega) (by omega) hg4 ?_; intro a5 c5 w5 hO5 hB5
       have hB05 := hB04.trans hB5
       have hg5 : G ≤ w5.heap.size := Nat.le_trans (Nat.le_of_eq HG.out.symm) hB05.size
       have hO6 := hO5.below ((Below.refl _ w5).alloc (Nat.le_refl _) (.cells #[.int .u8 (p : Int), .int .u8 (q : Int), .int .u8 (r : Int), .int .u8 (t : Int)] 5)) (Nat.le_refl _)
       have hB06 := hB05.alloc hg5 (.cells #[.int .u8 (p : Int), .int .u8 (q : Int), .int .u8 (r : Int), .int .u8 (t : Int)] 5))
    | (at_builtin; refine bapp8N rfl (.tmp 28) (.tmp 43) rfl G _ ([] ++ B2) rfl hO6 _ _ 4 4 B4 rfl (J4.out w5) 6 (by have := HL.out; simp; omega) (by omega) (Nat.le_trans (Nat.le_of_eq HG.out.symm) hB06.size) ?_; intro a7 c7 w7 hO7 hB7
       have hB07 := hB06.trans hB7)
    | (at_builtin; refine bapp8N rfl (.tmp 45) (.tmp 46) rfl G _ ([] ++ B2 ++ B4) rfl hO7 w.heap.size a _ c L rfl (HI.out.below (HB1.out.trans (hB07.mono HGw.out))) (6 + m) (by have := HL.out; simp; omega) (by have := HL.out; omega) (Nat.le_trans (Nat.le_of_eq HG.out.symm) hB07.size) ?_; intro a8 c8 w8 hO8 hB8)
    | fail)
  go_ret
  rw [HF.out]
  exact made_of (by have := HL.out; simp; omega) (hO8.le HGw.out) (HB1.out.trans ((hB07.trans hB8).mono HGw.out))
/-- The document's All: the frames of all, or the error. -/
def RGives (zs : List Int) (w : World) (e : Ending) (w' : World) : Prop := ∃ a c, e = .returned (.tuple #[.slice a zs.length c, .int .i64 0]) ∧ Own8 w.heap.size w' (.slice a zs.length c) zs ∧ Below w.heap.size w w'
set_option maxRecDepth 100000 in
set_option maxHeartbeats 1000000 in
theorem rall_any (a : Option Addr) (n c : Nat) (ls : List (List Int)) (w : World) (h : BssAt w.heap.size w a ls) (hn : n = ls.length) (hs : sizeN ls ≤ 10000000) (hl : ls.length ≤ 10000000) :
    Calls Try.prog 10 #[.slice a n c] w (AllE ls w) := by
  have HX := Lib.hid h
  have HL := Lib.hid (And.intro hs (And.intro (show n ≤ 10000000 by omega) hn.symm))
  clear h hs hl hn
  go_enter Try.func10, Try.ntmps10
  go_wp2
  go_loopw [4, 5] (fun s i wr => ∃ (k N : Nat) (a' : Option Addr) (c' : Nat), k ≤ n ∧ i = .int .i64 (k : Int) ∧ s = .slice a' N c' ∧ Own8 w.heap.size wr (.slice a' N c') ((ls.take k).map frameL).flatten ∧ (∀ L ∈ ls.take k, RecL L) ∧ Below w.heap.size w wr) (fun _ i _ => (n - intOf i).toNat)
  case atStart => exact ⟨0, 0, none, 0, Nat.zero_le _, rfl, rfl, Own8.nil _ _, (fun L hL => by simp at hL), Below.refl _ _⟩
  case round =>
    obtain ⟨k, N, a', c', hk, rfl, rfl, hO, hR, hB⟩ := hrel
    obtain ⟨_, _, eN⟩ := hO.form
    by_cases hlt : k < n
    · have i1 : (k : Int) < n := by omega
      have i2 : (0 : Int) ≤ (k : Int) := by omega
      have wk := wrap_succ (k := k) (by have := HL.out; omega)
      obtain ⟨b, o, a2, c2, rfl, hb, h0, h1, h2⟩ := (HX.out.next hB (Nat.le_refl _)).at k (by have := HL.out; omega)
      have hfs := frames_snoc ls k (by have := HL.out; omega)
      have hts : ∀ M ∈ ls.take (k + 1), M ∈ ls.take k ∨ M = ls.getD k [] := fun M hM => by
        rw [List.take_succ_eq_append_getElem (by have := HL.out; omega)] at hM
        rcases List.mem_append.1 hM with q | q
        · exact .inl q
        · right
          rw [List.mem_singleton.1 q]
          simp [List.getD, show k < ls.length by have := HL.out; omega]
      have hmem : ls.getD k [] ∈ ls := by
        rw [show ls.getD k [] = ls[k]'(by have := HL.out; omega) by simp [List.getD, show k < ls.length by have := HL.out; omega]]
        exact List.getElem_mem _
      have hsz := size_take_le ls k
      have hsz2 := size_take_le ls (k + 1)
      generalize ls.getD k [] = L at *
      obtain ⟨m, hm⟩ : ∃ m, L.length = m := ⟨_, rfl⟩
      rw [hm] at h0 h1 h2
      by_cases hL : 1 ≤ m ∧ m ≤ 4096
      · have hF := rframe_any a2 m c2 L wr (h2.mono hB.size) (by omega)
        unfold Made at hF
        have HF := Lib.hid hF
        have HR := Lib.hid (show ∀ M ∈ ls.take (k + 1), RecL M from fun M hM => (hts M hM).elim (hR M) (fun e => by rw [e]; unfold RecL; omega))
        obtain ⟨F, hFL⟩ : ∃ F, frameL L = F := ⟨_, rfl⟩
        obtain ⟨fl, hfl⟩ : ∃ fl, F.length = fl := ⟨_, rfl⟩
        have hN2 : (((ls.take k).map frameL).flatten ++ F).length = N + fl := by
          rw [List.length_append, hfl]
          have := eN
          simp at this
          simp
          omega
        have hsmall : N + fl ≤ 10000000 := by
          rw [← hN2, ← hFL, ← hfs]
          have := HL.out.1
          unfold sizeN at hsz2 this
          omega
        rw [hFL, hfl] at HF
        rw [hFL] at hfs
        have e1 : ((m : Int) == 0) = false := by simp; omega
        have e2 : ¬ (4096 : Int) < (m : Int) := by omega
        have HK := Lib.hid (And.intro hlt (And.intro hB (And.intro hO (And.intro hfs (And.intro hN2 hsmall)))))
        clear hO h2 h1 hb hL hm hfs hts hmem hsz hR eN hB hlt hk hF hFL hfl hN2 hsmall hsz2
        go_wp2_with (first
          | (go_at_call 21; refine HF.out.mono ?_; rintro e w3 ⟨a3, c3, rfl, hO3, hB3⟩)
          | (at_builtin; refine bapp8N rfl (.tmp 26) (.tmp 31) rfl w.heap.size _ _ rfl (HK.out.2.2.1.below hB3 (Nat.le_refl _)) _ _ fl c3 F rfl hO3.bys (N + fl) HK.out.2.2.2.2.1 (Nat.le_trans HK.out.2.2.2.2.2 (by decide)) (Nat.le_trans HK.out.2.1.size hB3.size) ?_; intro a4 c4 w4 hO4 hB4
             rw [← HK.out.2.2.2.1] at hO4
             have HO4 := Lib.hid (And.intro hO4 ((HK.out.2.1.trans (hB3.mono HK.out.2.1.size)).trans hB4)); clear hO4 hB4 hO3 hB3)
          | fail)
        go_roundw
        case rel => exact ⟨k + 1, _, a4, c4, HK.out.1, by first | rfl | rw [wk], rfl, HO4.out.1, HR.out, HO4.out.2⟩
        case measure =>
          have hk2 := HK.out.1
          first
            | (show ((n : Int) - intOf (.int .i64 (wrap64 ((k : Int) + 1)))).toNat < ((n : Int) - intOf (.int .i64 (k : Int))).toNat; rw [wk])
            | (show ((n : Int) - intOf (.int .i64 ((k + 1 : Nat) : Int))).toNat < ((n : Int) - intOf (.int .i64 (k : Int))).toNat)
            | (show ((n : Int) - intOf (.int .i64 ((k : Int) + 1))).toNat < ((n : Int) - intOf (.int .i64 (k : Int))).toNat)
          first
            | (show ((n : Int) - ((k + 1 : Nat) : Int)).toNat < ((n : Int) - ((k : Nat) : Int)).toNat; omega)
            | (show ((n : Int) - ((k : Int) + 1)).toNat < ((n : Int) - ((k : Nat) : Int)).toNat; omega)
      · have HE := Lib.hid (show ¬ ∀ M ∈ ls, RecL M from fun q => hL (by have := q L hmem; unfold RecL at this; omega))
        have HB := Lib.hid hB
        have hm2 : m = 0 ∨ 4096 < m := by omega
        clear hO h2 h1 hb hL hm hfs hts hmem hsz hR eN hB hlt hk hsz2
        rcases hm2 with rfl | hm2
        · go_wp2
          go_ret2
          exact .inr ⟨HE.out, rfl, HB.out⟩
        · have e1 : ((m : Int) == 0) = false := by simp; omega
          have e2 : (4096 : Int) < (m : Int) := by omega
          clear hm2
          go_wp2
          go_ret2
          exact .inr ⟨HE.out, rfl, HB.out⟩
    · have i1 : ¬ (k : Int) < n := by omega
      have hkn : k = n := by omega
      have hnl : ls.length = n := HL.out.2.2
      rw [List.take_of_length_le (by omega)] at hO hR
      have HO := Lib.hid (And.intro hO (And.intro hR hB))
      clear hO hR hB hkn hnl hlt hk eN
      go_wp2
      go_ret2
      obtain ⟨hO, hR, hB⟩ := HO.out
      obtain ⟨_, _, e⟩ := hO.form
      cases e
      exact .inl ⟨hR, _, _, rfl, hO, hB⟩
end Go.Proofs.Ytmhgphbafiilnaa
