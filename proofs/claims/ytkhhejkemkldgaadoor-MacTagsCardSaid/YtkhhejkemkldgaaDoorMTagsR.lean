/- The walk of the statement MacTags: its great region. -/
import Derived.Test.YtkhhejkemkldgaaDoorMIs
import Derived.Test.YtkhhejkemkldgaaDoorMShort
set_option linter.unusedVariables false
set_option linter.unusedSimpArgs false
namespace Go.Proofs.YtkhhejkemkldgaaDoor
open Go.RowKit Go.Shelf
/-- Two hashes lie, and a text is read from the bytes. -/
def TS (G1 G2 : Nat) (ft gg : Nat → Int) (Bb : Option Addr) (lb cb n0 : Nat) (xs : List Int) (X : World) : Prop := At 38 X G1 (nums .u8 32 ft) ∧ At 38 X G2 (nums .u8 32 gg) ∧ Bys8 n0 X (.slice Bb lb cb) xs ∧ n0 ≤ X.heap.size
theorem TS.below {G1 G2 : Nat} {ft gg : Nat → Int} {Bb : Option Addr} {lb cb n0 : Nat} {xs : List Int} {X Y : World} (h : TS G1 G2 ft gg Bb lb cb n0 xs X) (hb : Below X.heap.size X Y) : TS G1 G2 ft gg Bb lb cb n0 xs Y :=
  ⟨h.1.below h.1.lt hb, h.2.1.below h.2.1.lt hb, h.2.2.1.below (hb.mono h.2.2.2), Nat.le_trans h.2.2.2 hb.size⟩
theorem sameH_comm (f g : Nat → Int) : sameH f g = sameH g f := by
  unfold sameH
  congr 1
  funext j
  exact Bool.beq_comm
theorem exec_eqbool {o : Oper} {a : Act} {x y : Operand} {b : Bool} {w : World} (ho : o.op = .binOp .eql 4 x y 4) (hx : a.eval x = .bool b) (hy : a.eval y = .bool b) : (execOp a.eval o).run Tryd.prog w = .ok (.value (.bool true)) w := by
  unfold execOp
  simp only [ho, hx, hy]
  go_simp
theorem exec_eqstr {o : Oper} {a : Act} {x y : Operand} {s : ByteArray} {w : World} (ho : o.op = .binOp .eql 9 x y 9) (hx : a.eval x = .string s) (hy : a.eval y = .string s) : (execOp a.eval o).run Tryd.prog w = .ok (.value (.bool true)) w := by
  unfold execOp
  simp only [ho, hx, hy]
  go_simp
set_option maxHeartbeats 1000000 in
theorem region_mtags {id : Nat} {Q : Exit → Act → World → Prop} {L0 : List Oper} {ops : Array Oper} (hops : L0.toArray = ops) (hlen : ops.size = 54) (hsel : Region.noSelect ops = true) (o0 o1 o2 o3 o4 o5 o6 o7 o8 o9 o10 o11 o12 o13 o14 o15 o16 o17 o18 o19 o20 o21 o22 o23 o24 o25 o26 o27 o28 o29 o30 o31 o32 o33 o34 o35 o36 o37 o38 o39 o40 o41 o42 o43 o44 o45 o46 o47 o48 o49 o50 o51 o52 o53 : Oper)
    (p0 : ops[0]? = some o0) (e0 : o0.op = .move (.tmp 0)) (d0 : o0.dst = some 53) (g0 : o0.guard = none)
    (p1 : ops[1]? = some o1) (e1 : o1.op = .move (.tmp 1)) (d1 : o1.dst = some 54) (g1 : o1.guard = none)
    (p2 : ops[2]? = some o2) (e2 : o2.op = .call { callee := .value (.func 19), args := #[.tmp 53, .tmp 54], argTypes := #[33, 33] }) (d2 : o2.dst = some 55) (g2 : o2.guard = none)
    (p3 : ops[3]? = some o3) (e3 : o3.op = .load 38 (.tmp 10)) (d3 : o3.dst = some 56) (g3 : o3.guard = none)
    (p4 : ops[4]? = some o4) (e4 : o4.op = .binOp .eql 38 (.tmp 55) (.tmp 56) 38) (d4 : o4.dst = some 57) (g4 : o4.guard = none)
    (p5 : ops[5]? = some o5) (e5 : o5.op = .move (.tmp 57)) (d5 : o5.dst = some 58) (g5 : o5.guard = none)
    (p6 : ops[6]? = some o6) (e6 : o6.op = .move (.tmp 11)) (d6 : o6.dst = some 59) (g6 : o6.guard = some (5, true))
    (p7 : ops[7]? = some o7) (e7 : o7.op = .call { callee := .value (.func 20), args := #[.tmp 59], argTypes := #[44] }) (d7 : o7.dst = some 60) (g7 : o7.guard = some (5, true))
    (p8 : ops[8]? = some o8) (e8 : o8.op = .load 38 (.tmp 10)) (d8 : o8.dst = some 61) (g8 : o8.guard = some (5, true))
    (p9 : ops[9]? = some o9) (e9 : o9.op = .binOp .eql 38 (.tmp 60) (.tmp 61) 38) (d9 : o9.dst = some 62) (g9 : o9.guard = some (5, true))
    (p10 : ops[10]? = some o10) (e10 : o10.op = .pick (.tmp 58) (.tmp 62) (.const (.bool false))) (d10 : o10.dst = some 63) (g10 : o10.guard = none)
    (p11 : ops[11]? = some o11) (e11 : o11.op = .move (.tmp 63)) (d11 : o11.dst = some 64) (g11 : o11.guard = none)
    (p12 : ops[12]? = some o12) (e12 : o12.op = .move (.tmp 11)) (d12 : o12.dst = some 65) (g12 : o12.guard = some (11, true))
    (p13 : ops[13]? = some o13) (e13 : o13.op = .load 38 (.tmp 10)) (d13 : o13.dst = some 66) (g13 : o13.guard = some (11, true))
    (p14 : ops[14]? = some o14) (e14 : o14.op = .call { callee := .value (.func 21), args := #[.tmp 65, .tmp 66], argTypes := #[44, 38] }) (d14 : o14.dst = some 67) (g14 : o14.guard = some (11, true))
    (p15 : ops[15]? = some o15) (e15 : o15.op = .pick (.tmp 64) (.tmp 67) (.const (.bool false))) (d15 : o15.dst = some 68) (g15 : o15.guard = none)
    (p16 : ops[16]? = some o16) (e16 : o16.op = .move (.tmp 68)) (d16 : o16.dst = some 69) (g16 : o16.guard = none)
    (p17 : ops[17]? = some o17) (e17 : o17.op = .move (.tmp 11)) (d17 : o17.dst = some 70) (g17 : o17.guard = some (16, true))
    (p18 : ops[18]? = some o18) (e18 : o18.op = .load 38 (.tmp 6)) (d18 : o18.dst = some 71) (g18 : o18.guard = some (16, true))
    (p19 : ops[19]? = some o19) (e19 : o19.op = .call { callee := .value (.func 21), args := #[.tmp 70, .tmp 71], argTypes := #[44, 38] }) (d19 : o19.dst = some 72) (g19 : o19.guard = some (16, true))
    (p20 : ops[20]? = some o20) (e20 : o20.op = .load 38 (.tmp 6)) (d20 : o20.dst = some 73) (g20 : o20.guard = some (16, true))
    (p21 : ops[21]? = some o21) (e21 : o21.op = .load 38 (.tmp 10)) (d21 : o21.dst = some 74) (g21 : o21.guard = some (16, true))
    (p22 : ops[22]? = some o22) (e22 : o22.op = .binOp .eql 38 (.tmp 73) (.tmp 74) 38) (d22 : o22.dst = some 75) (g22 : o22.guard = some (16, true))
    (p23 : ops[23]? = some o23) (e23 : o23.op = .binOp .eql 4 (.tmp 72) (.tmp 75) 4) (d23 : o23.dst = some 76) (g23 : o23.guard = some (16, true))
    (p24 : ops[24]? = some o24) (e24 : o24.op = .pick (.tmp 69) (.tmp 76) (.const (.bool false))) (d24 : o24.dst = some 77) (g24 : o24.guard = none)
    (p25 : ops[25]? = some o25) (e25 : o25.op = .move (.tmp 77)) (d25 : o25.dst = some 78) (g25 : o25.guard = none)
    (p26 : ops[26]? = some o26) (e26 : o26.op = .move (.tmp 0)) (d26 : o26.dst = some 79) (g26 : o26.guard = some (25, true))
    (p27 : ops[27]? = some o27) (e27 : o27.op = .move (.tmp 1)) (d27 : o27.dst = some 80) (g27 : o27.guard = some (25, true))
    (p28 : ops[28]? = some o28) (e28 : o28.op = .load 38 (.tmp 6)) (d28 : o28.dst = some 81) (g28 : o28.guard = some (25, true))
    (p29 : ops[29]? = some o29) (e29 : o29.op = .call { callee := .value (.func 22), args := #[.tmp 79, .tmp 80, .tmp 81], argTypes := #[33, 33, 38] }) (d29 : o29.dst = some 82) (g29 : o29.guard = some (25, true))
    (p30 : ops[30]? = some o30) (e30 : o30.op = .load 38 (.tmp 6)) (d30 : o30.dst = some 83) (g30 : o30.guard = some (25, true))
    (p31 : ops[31]? = some o31) (e31 : o31.op = .load 38 (.tmp 10)) (d31 : o31.dst = some 84) (g31 : o31.guard = some (25, true))
    (p32 : ops[32]? = some o32) (e32 : o32.op = .binOp .eql 38 (.tmp 83) (.tmp 84) 38) (d32 : o32.dst = some 85) (g32 : o32.guard = some (25, true))
    (p33 : ops[33]? = some o33) (e33 : o33.op = .binOp .eql 4 (.tmp 82) (.tmp 85) 4) (d33 : o33.dst = some 86) (g33 : o33.guard = some (25, true))
    (p34 : ops[34]? = some o34) (e34 : o34.op = .pick (.tmp 78) (.tmp 86) (.const (.bool false))) (d34 : o34.dst = some 87) (g34 : o34.guard = none)
    (p35 : ops[35]? = some o35) (e35 : o35.op = .move (.tmp 87)) (d35 : o35.dst = some 88) (g35 : o35.guard = none)
    (p36 : ops[36]? = some o36) (e36 : o36.op = .move (.tmp 0)) (d36 : o36.dst = some 89) (g36 : o36.guard = some (35, true))
    (p37 : ops[37]? = some o37) (e37 : o37.op = .move (.tmp 1)) (d37 : o37.dst = some 90) (g37 : o37.guard = some (35, true))
    (p38 : ops[38]? = some o38) (e38 : o38.op = .load 38 (.tmp 10)) (d38 : o38.dst = some 91) (g38 : o38.guard = some (35, true))
    (p39 : ops[39]? = some o39) (e39 : o39.op = .call { callee := .value (.func 22), args := #[.tmp 89, .tmp 90, .tmp 91], argTypes := #[33, 33, 38] }) (d39 : o39.dst = some 92) (g39 : o39.guard = some (35, true))
    (p40 : ops[40]? = some o40) (e40 : o40.op = .pick (.tmp 88) (.tmp 92) (.const (.bool false))) (d40 : o40.dst = some 93) (g40 : o40.guard = none)
    (p41 : ops[41]? = some o41) (e41 : o41.op = .move (.tmp 93)) (d41 : o41.dst = some 94) (g41 : o41.guard = none)
    (p42 : ops[42]? = some o42) (e42 : o42.op = .move (.tmp 12)) (d42 : o42.dst = some 95) (g42 : o42.guard = some (41, true))
    (p43 : ops[43]? = some o43) (e43 : o43.op = .call { callee := .builtin .len, args := #[.tmp 95], argTypes := #[33] }) (d43 : o43.dst = some 96) (g43 : o43.guard = some (41, true))
    (p44 : ops[44]? = some o44) (e44 : o44.op = .move (.tmp 13)) (d44 : o44.dst = some 97) (g44 : o44.guard = some (41, true))
    (p45 : ops[45]? = some o45) (e45 : o45.op = .binOp .eql 3 (.tmp 96) (.tmp 97) 3) (d45 : o45.dst = some 98) (g45 : o45.guard = some (41, true))
    (p46 : ops[46]? = some o46) (e46 : o46.op = .pick (.tmp 94) (.tmp 98) (.const (.bool false))) (d46 : o46.dst = some 99) (g46 : o46.guard = none)
    (p47 : ops[47]? = some o47) (e47 : o47.op = .move (.tmp 99)) (d47 : o47.dst = some 100) (g47 : o47.guard = none)
    (p48 : ops[48]? = some o48) (e48 : o48.op = .move (.tmp 9)) (d48 : o48.dst = some 101) (g48 : o48.guard = some (47, true))
    (p49 : ops[49]? = some o49) (e49 : o49.op = .move (.tmp 1)) (d49 : o49.dst = some 102) (g49 : o49.guard = some (47, true))
    (p50 : ops[50]? = some o50) (e50 : o50.op = .convert 33 9 (.tmp 102)) (d50 : o50.dst = some 103) (g50 : o50.guard = some (47, true))
    (p51 : ops[51]? = some o51) (e51 : o51.op = .binOp .eql 9 (.tmp 101) (.tmp 103) 9) (d51 : o51.dst = some 104) (g51 : o51.guard = some (47, true))
    (p52 : ops[52]? = some o52) (e52 : o52.op = .pick (.tmp 100) (.tmp 104) (.const (.bool false))) (d52 : o52.dst = some 105) (g52 : o52.guard = none)
    (p53 : ops[53]? = some o53) (e53 : o53.op = .assign (.tmp 105)) (d53 : o53.dst = some 8) (g53 : o53.guard = none)
    (f0 : Region.free .any ops (LR 54 []) 0 = true) (c0 : (Region.ready .any ops (LR 54 [])).contains 0 = true)
    (f1 : Region.free .any ops (LR 54 [0]) 1 = true) (c1 : (Region.ready .any ops (LR 54 [0])).contains 1 = true)
    (f3 : Region.free .any ops (LR 54 [0, 1]) 3 = true) (c3 : (Region.ready .any ops (LR 54 [0, 1])).contains 3 = true)
    (r2 : Region.ready .any ops (LR 54 [0, 1, 3]) = [2])
    (f4 : Region.free .any ops (LR 54 [0, 1, 2, 3]) 4 = true) (c4 : (Region.ready .any ops (LR 54 [0, 1, 2, 3])).contains 4 = true)
    (f5 : Region.free .any ops (LR 54 [0, 1, 2, 3, 4]) 5 = true) (c5 : (Region.ready .any ops (LR 54 [0, 1, 2, 3, 4])).contains 5 = true)
    (f6 : Region.free .any ops (LR 54 [0, 1, 2, 3, 4, 5]) 6 = true) (c6 : (Region.ready .any ops (LR 54 [0, 1, 2, 3, 4, 5])).contains 6 = true)
    (f8 : Region.free .any ops (LR 54 [0, 1, 2, 3, 4, 5, 6]) 8 = true) (c8 : (Region.ready .any ops (LR 54 [0, 1, 2, 3, 4, 5, 6])).contains 8 = true)
    (r7 : Region.ready .any ops (LR 54 [0, 1, 2, 3, 4, 5, 6, 8]) = [7])
    (f9 : Region.free .any ops (LR 54 [0, 1, 2, 3, 4, 5, 6, 7, 8]) 9 = true) (c9 : (Region.ready .any ops (LR 54 [0, 1, 2, 3, 4, 5, 6, 7, 8])).contains 9 = true)
    (f10 : Region.free .any ops (LR 54 [0, 1, 2, 3, 4, 5, 6, 7, 8, 9]) 10 = true) (c10 : (Region.ready .any ops (LR 54 [0, 1, 2, 3, 4, 5, 6, 7, 8, 9])).contains 10 = true)
    (f11 : Region.free .any ops (LR 54 [0, 1, 2, 3, 4, 5, 6, 7, 8, 9, 10]) 11 = true) (c11 : (Region.ready .any ops (LR 54 [0, 1, 2, 3, 4, 5, 6, 7, 8, 9, 10])).contains 11 = true)
    (f12 : Region.free .any ops (LR 54 [0, 1, 2, 3, 4, 5, 6, 7, 8, 9, 10, 11]) 12 = true) (c12 : (Region.ready .any ops (LR 54 [0, 1, 2, 3, 4, 5, 6, 7, 8, 9, 10, 11])).contains 12 = true)
    (f13 : Region.free .any ops (LR 54 [0, 1, 2, 3, 4, 5, 6, 7, 8, 9, 10, 11, 12]) 13 = true) (c13 : (Region.ready .any ops (LR 54 [0, 1, 2, 3, 4, 5, 6, 7, 8, 9, 10, 11, 12])).contains 13 = true)
    (r14 : Region.ready .any ops (LR 54 [0, 1, 2, 3, 4, 5, 6, 7, 8, 9, 10, 11, 12, 13]) = [14])
    (f15 : Region.free .any ops (LR 54 [0, 1, 2, 3, 4, 5, 6, 7, 8, 9, 10, 11, 12, 13, 14]) 15 = true) (c15 : (Region.ready .any ops (LR 54 [0, 1, 2, 3, 4, 5, 6, 7, 8, 9, 10, 11, 12, 13, 14])).contains 15 = true)
    (f16 : Region.free .any ops (LR 54 [0, 1, 2, 3, 4, 5, 6, 7, 8, 9, 10, 11, 12, 13, 14, 15]) 16 = true) (c16 : (Region.ready .any ops (LR 54 [0, 1, 2, 3, 4, 5, 6, 7, 8, 9, 10, 11, 12, 13, 14, 15])).contains 16 = true)
    (f17 : Region.free .any ops (LR 54 [0, 1, 2, 3, 4, 5, 6, 7, 8, 9, 10, 11, 12, 13, 14, 15, 16]) 17 = true) (c17 : (Region.ready .any ops (LR 54 [0, 1, 2, 3, 4, 5, 6, 7, 8, 9, 10, 11, 12, 13, 14, 15, 16])).contains 17 = true)
    (f18 : Region.free .any ops (LR 54 [0, 1, 2, 3, 4, 5, 6, 7, 8, 9, 10, 11, 12, 13, 14, 15, 16, 17]) 18 = true) (c18 : (Region.ready .any ops (LR 54 [0, 1, 2, 3, 4, 5, 6, 7, 8, 9, 10, 11, 12, 13, 14, 15, 16, 17])).contains 18 = true)
    (f20 : Region.free .any ops (LR 54 [0, 1, 2, 3, 4, 5, 6, 7, 8, 9, 10, 11, 12, 13, 14, 15, 16, 17, 18]) 20 = true) (c20 : (Region.ready .any ops (LR 54 [0, 1, 2, 3, 4, 5, 6, 7, 8, 9, 10, 11, 12, 13, 14, 15, 16, 17, 18])).contains 20 = true)
    (f21 : Region.free .any ops (LR 54 [0, 1, 2, 3, 4, 5, 6, 7, 8, 9, 10, 11, 12, 13, 14, 15, 16, 17, 18, 20]) 21 = true) (c21 : (Region.ready .any ops (LR 54 [0, 1, 2, 3, 4, 5, 6, 7, 8, 9, 10, 11, 12, 13, 14, 15, 16, 17, 18, 20])).contains 21 = true)
    (f22 : Region.free .any ops (LR 54 [0, 1, 2, 3, 4, 5, 6, 7, 8, 9, 10, 11, 12, 13, 14, 15, 16, 17, 18, 20, 21]) 22 = true) (c22 : (Region.ready .any ops (LR 54 [0, 1, 2, 3, 4, 5, 6, 7, 8, 9, 10, 11, 12, 13, 14, 15, 16, 17, 18, 20, 21])).contains 22 = true)
    (r19 : Region.ready .any ops (LR 54 [0, 1, 2, 3, 4, 5, 6, 7, 8, 9, 10, 11, 12, 13, 14, 15, 16, 17, 18, 20, 21, 22]) = [19])
    (f23 : Region.free .any ops (LR 54 [0, 1, 2, 3, 4, 5, 6, 7, 8, 9, 10, 11, 12, 13, 14, 15, 16, 17, 18, 19, 20, 21, 22]) 23 = true) (c23 : (Region.ready .any ops (LR 54 [0, 1, 2, 3, 4, 5, 6, 7, 8, 9, 10, 11, 12, 13, 14, 15, 16, 17, 18, 19, 20, 21, 22])).contains 23 = true)
    (f24 : Region.free .any ops (LR 54 [0, 1, 2, 3, 4, 5, 6, 7, 8, 9, 10, 11, 12, 13, 14, 15, 16, 17, 18, 19, 20, 21, 22, 23]) 24 = true) (c24 : (Region.ready .any ops (LR 54 [0, 1, 2, 3, 4, 5, 6, 7, 8, 9, 10, 11, 12, 13, 14, 15, 16, 17, 18, 19, 20, 21, 22, 23])).contains 24 = true)
    (f25 : Region.free .any ops (LR 54 [0, 1, 2, 3, 4, 5, 6, 7, 8, 9, 10, 11, 12, 13, 14, 15, 16, 17, 18, 19, 20, 21, 22, 23, 24]) 25 = true) (c25 : (Region.ready .any ops (LR 54 [0, 1, 2, 3, 4, 5, 6, 7, 8, 9, 10, 11, 12, 13, 14, 15, 16, 17, 18, 19, 20, 21, 22, 23, 24])).contains 25 = true)
    (f26 : Region.free .any ops (LR 54 [0, 1, 2, 3, 4, 5, 6, 7, 8, 9, 10, 11, 12, 13, 14, 15, 16, 17, 18, 19, 20, 21, 22, 23, 24, 25]) 26 = true) (c26 : (Region.ready .any ops (LR 54 [0, 1, 2, 3, 4, 5, 6, 7, 8, 9, 10, 11, 12, 13, 14, 15, 16, 17, 18, 19, 20, 21, 22, 23, 24, 25])).contains 26 = true)
    (f27 : Region.free .any ops (LR 54 [0, 1, 2, 3, 4, 5, 6, 7, 8, 9, 10, 11, 12, 13, 14, 15, 16, 17, 18, 19, 20, 21, 22, 23, 24, 25, 26]) 27 = true) (c27 : (Region.ready .any ops (LR 54 [0, 1, 2, 3, 4, 5, 6, 7, 8, 9, 10, 11, 12, 13, 14, 15, 16, 17, 18, 19, 20, 21, 22, 23, 24, 25, 26])).contains 27 = true)
    (f28 : Region.free .any ops (LR 54 [0, 1, 2, 3, 4, 5, 6, 7, 8, 9, 10, 11, 12, 13, 14, 15, 16, 17, 18, 19, 20, 21, 22, 23, 24, 25, 26, 27]) 28 = true) (c28 : (Region.ready .any ops (LR 54 [0, 1, 2, 3, 4, 5, 6, 7, 8, 9, 10, 11, 12, 13, 14, 15, 16, 17, 18, 19, 20, 21, 22, 23, 24, 25, 26, 27])).contains 28 = true)
    (f30 : Region.free .any ops (LR 54 [0, 1, 2, 3, 4, 5, 6, 7, 8, 9, 10, 11, 12, 13, 14, 15, 16, 17, 18, 19, 20, 21, 22, 23, 24, 25, 26, 27, 28]) 30 = true) (c30 : (Region.ready .any ops (LR 54 [0, 1, 2, 3, 4, 5, 6, 7, 8, 9, 10, 11, 12, 13, 14, 15, 16, 17, 18, 19, 20, 21, 22, 23, 24, 25, 26, 27, 28])).contains 30 = true)
    (f31 : Region.free .any ops (LR 54 [0, 1, 2, 3, 4, 5, 6, 7, 8, 9, 10, 11, 12, 13, 14, 15, 16, 17, 18, 19, 20, 21, 22, 23, 24, 25, 26, 27, 28, 30]) 31 = true) (c31 : (Region.ready .any ops (LR 54 [0, 1, 2, 3, 4, 5, 6, 7, 8, 9, 10, 11, 12, 13, 14, 15, 16, 17, 18, 19, 20, 21, 22, 23, 24, 25, 26, 27, 28, 30])).contains 31 = true)
    (f32 : Region.free .any ops (LR 54 [0, 1, 2, 3, 4, 5, 6, 7, 8, 9, 10, 11, 12, 13, 14, 15, 16, 17, 18, 19, 20, 21, 22, 23, 24, 25, 26, 27, 28, 30, 31]) 32 = true) (c32 : (Region.ready .any ops (LR 54 [0, 1, 2, 3, 4, 5, 6, 7, 8, 9, 10, 11, 12, 13, 14, 15, 16, 17, 18, 19, 20, 21, 22, 23, 24, 25, 26, 27, 28, 30, 31])).contains 32 = true)
    (r29 : Region.ready .any ops (LR 54 [0, 1, 2, 3, 4, 5, 6, 7, 8, 9, 10, 11, 12, 13, 14, 15, 16, 17, 18, 19, 20, 21, 22, 23, 24, 25, 26, 27, 28, 30, 31, 32]) = [29])
    (f33 : Region.free .any ops (LR 54 [0, 1, 2, 3, 4, 5, 6, 7, 8, 9, 10, 11, 12, 13, 14, 15, 16, 17, 18, 19, 20, 21, 22, 23, 24, 25, 26, 27, 28, 29, 30, 31, 32]) 33 = true) (c33 : (Region.ready .any ops (LR 54 [0, 1, 2, 3, 4, 5, 6, 7, 8, 9, 10, 11, 12, 13, 14, 15, 16, 17, 18, 19, 20, 21, 22, 23, 24, 25, 26, 27, 28, 29, 30, 31, 32])).contains 33 = true)
    (f34 : Region.free .any ops (LR 54 [0, 1, 2, 3, 4, 5, 6, 7, 8, 9, 10, 11, 12, 13, 14, 15, 16, 17, 18, 19, 20, 21, 22, 23, 24, 25, 26, 27, 28, 29, 30, 31, 32, 33]) 34 = true) (c34 : (Region.ready .any ops (LR 54 [0, 1, 2, 3, 4, 5, 6, 7, 8, 9, 10, 11, 12, 13, 14, 15, 16, 17, 18, 19, 20, 21, 22, 23, 24, 25, 26, 27, 28, 29, 30, 31, 32, 33])).contains 34 = true)
    (f35 : Region.free .any ops (LR 54 [0, 1, 2, 3, 4, 5, 6, 7, 8, 9, 10, 11, 12, 13, 14, 15, 16, 17, 18, 19, 20, 21, 22, 23, 24, 25, 26, 27, 28, 29, 30, 31, 32, 33, 34]) 35 = true) (c35 : (Region.ready .any ops (LR 54 [0, 1, 2, 3, 4, 5, 6, 7, 8, 9, 10, 11, 12, 13, 14, 15, 16, 17, 18, 19, 20, 21, 22, 23, 24, 25, 26, 27, 28, 29, 30, 31, 32, 33, 34])).contains 35 = true)
    (f36 : Region.free .any ops (LR 54 [0, 1, 2, 3, 4, 5, 6, 7, 8, 9, 10, 11, 12, 13, 14, 15, 16, 17, 18, 19, 20, 21, 22, 23, 24, 25, 26, 27, 28, 29, 30, 31, 32, 33, 34, 35]) 36 = true) (c36 : (Region.ready .any ops (LR 54 [0, 1, 2, 3, 4, 5, 6, 7, 8, 9, 10, 11, 12, 13, 14, 15, 16, 17, 18, 19, 20, 21, 22, 23, 24, 25, 26, 27, 28, 29, 30, 31, 32, 33, 34, 35])).contains 36 = true)
    (f37 : Region.free .any ops (LR 54 [0, 1, 2, 3, 4, 5, 6, 7, 8, 9, 10, 11, 12, 13, 14, 15, 16, 17, 18, 19, 20, 21, 22, 23, 24, 25, 26, 27, 28, 29, 30, 31, 32, 33, 34, 35, 36]) 37 = true) (c37 : (Region.ready .any ops (LR 54 [0, 1, 2, 3, 4, 5, 6, 7, 8, 9, 10, 11, 12, 13, 14, 15, 16, 17, 18, 19, 20, 21, 22, 23, 24, 25, 26, 27, 28, 29, 30, 31, 32, 33, 34, 35, 36])).contains 37 = true)
    (f38 : Region.free .any ops (LR 54 [0, 1, 2, 3, 4, 5, 6, 7, 8, 9, 10, 11, 12, 13, 14, 15, 16, 17, 18, 19, 20, 21, 22, 23, 24, 25, 26, 27, 28, 29, 30, 31, 32, 33, 34, 35, 36, 37]) 38 = true) (c38 : (Region.ready .any ops (LR 54 [0, 1, 2, 3, 4, 5, 6, 7, 8, 9, 10, 11, 12, 13, 14, 15, 16, 17, 18, 19, 20, 21, 22, 23, 24, 25, 26, 27, 28, 29, 30, 31, 32, 33, 34, 35, 36, 37])).contains 38 = true)
    (r39 : Region.ready .any ops (LR 54 [0, 1, 2, 3, 4, 5, 6, 7, 8, 9, 10, 11, 12, 13, 14, 15, 16, 17, 18, 19, 20, 21, 22, 23, 24, 25, 26, 27, 28, 29, 30, 31, 32, 33, 34, 35, 36, 37, 38]) = [39])
    (f40 : Region.free .any ops (LR 54 [0, 1, 2, 3, 4, 5, 6, 7, 8, 9, 10, 11, 12, 13, 14, 15, 16, 17, 18, 19, 20, 21, 22, 23, 24, 25, 26, 27, 28, 29, 30, 31, 32, 33, 34, 35, 36, 37, 38, 39]) 40 = true) (c40 : (Region.ready .any ops (LR 54 [0, 1, 2, 3, 4, 5, 6, 7, 8, 9, 10, 11, 12, 13, 14, 15, 16, 17, 18, 19, 20, 21, 22, 23, 24, 25, 26, 27, 28, 29, 30, 31, 32, 33, 34, 35, 36, 37, 38, 39])).contains 40 = true)
    (f41 : Region.free .any ops (LR 54 [0, 1, 2, 3, 4, 5, 6, 7, 8, 9, 10, 11, 12, 13, 14, 15, 16, 17, 18, 19, 20, 21, 22, 23, 24, 25, 26, 27, 28, 29, 30, 31, 32, 33, 34, 35, 36, 37, 38, 39, 40]) 41 = true) (c41 : (Region.ready .any ops (LR 54 [0, 1, 2, 3, 4, 5, 6, 7, 8, 9, 10, 11, 12, 13, 14, 15, 16, 17, 18, 19, 20, 21, 22, 23, 24, 25, 26, 27, 28, 29, 30, 31, 32, 33, 34, 35, 36, 37, 38, 39, 40])).contains 41 = true)
    (f42 : Region.free .any ops (LR 54 [0, 1, 2, 3, 4, 5, 6, 7, 8, 9, 10, 11, 12, 13, 14, 15, 16, 17, 18, 19, 20, 21, 22, 23, 24, 25, 26, 27, 28, 29, 30, 31, 32, 33, 34, 35, 36, 37, 38, 39, 40, 41]) 42 = true) (c42 : (Region.ready .any ops (LR 54 [0, 1, 2, 3, 4, 5, 6, 7, 8, 9, 10, 11, 12, 13, 14, 15, 16, 17, 18, 19, 20, 21, 22, 23, 24, 25, 26, 27, 28, 29, 30, 31, 32, 33, 34, 35, 36, 37, 38, 39, 40, 41])).contains 42 = true)
    (f43 : Region.free .any ops (LR 54 [0, 1, 2, 3, 4, 5, 6, 7, 8, 9, 10, 11, 12, 13, 14, 15, 16, 17, 18, 19, 20, 21, 22, 23, 24, 25, 26, 27, 28, 29, 30, 31, 32, 33, 34, 35, 36, 37, 38, 39, 40, 41, 42]) 43 = true) (c43 : (Region.ready .any ops (LR 54 [0, 1, 2, 3, 4, 5, 6, 7, 8, 9, 10, 11, 12, 13, 14, 15, 16, 17, 18, 19, 20, 21, 22, 23, 24, 25, 26, 27, 28, 29, 30, 31, 32, 33, 34, 35, 36, 37, 38, 39, 40, 41, 42])).contains 43 = true)
    (f44 : Region.free .any ops (LR 54 [0, 1, 2, 3, 4, 5, 6, 7, 8, 9, 10, 11, 12, 13, 14, 15, 16, 17, 18, 19, 20, 21, 22, 23, 24, 25, 26, 27, 28, 29, 30, 31, 32, 33, 34, 35, 36, 37, 38, 39, 40, 41, 42, 43]) 44 = true) (c44 : (Region.ready .any ops (LR 54 [0, 1, 2, 3, 4, 5, 6, 7, 8, 9, 10, 11, 12, 13, 14, 15, 16, 17, 18, 19, 20, 21, 22, 23, 24, 25, 26, 27, 28, 29, 30, 31, 32, 33, 34, 35, 36, 37, 38, 39, 40, 41, 42, 43])).contains 44 = true)
    (f45 : Region.free .any ops (LR 54 [0, 1, 2, 3, 4, 5, 6, 7, 8, 9, 10, 11, 12, 13, 14, 15, 16, 17, 18, 19, 20, 21, 22, 23, 24, 25, 26, 27, 28, 29, 30, 31, 32, 33, 34, 35, 36, 37, 38, 39, 40, 41, 42, 43, 44]) 45 = true) (c45 : (Region.ready .any ops (LR 54 [0, 1, 2, 3, 4, 5, 6, 7, 8, 9, 10, 11, 12, 13, 14, 15, 16, 17, 18, 19, 20, 21, 22, 23, 24, 25, 26, 27, 28, 29, 30, 31, 32, 33, 34, 35, 36, 37, 38, 39, 40, 41, 42, 43, 44])).contains 45 = true)
    (f46 : Region.free .any ops (LR 54 [0, 1, 2, 3, 4, 5, 6, 7, 8, 9, 10, 11, 12, 13, 14, 15, 16, 17, 18, 19, 20, 21, 22, 23, 24, 25, 26, 27, 28, 29, 30, 31, 32, 33, 34, 35, 36, 37, 38, 39, 40, 41, 42, 43, 44, 45]) 46 = true) (c46 : (Region.ready .any ops (LR 54 [0, 1, 2, 3, 4, 5, 6, 7, 8, 9, 10, 11, 12, 13, 14, 15, 16, 17, 18, 19, 20, 21, 22, 23, 24, 25, 26, 27, 28, 29, 30, 31, 32, 33, 34, 35, 36, 37, 38, 39, 40, 41, 42, 43, 44, 45])).contains 46 = true)
    (f47 : Region.free .any ops (LR 54 [0, 1, 2, 3, 4, 5, 6, 7, 8, 9, 10, 11, 12, 13, 14, 15, 16, 17, 18, 19, 20, 21, 22, 23, 24, 25, 26, 27, 28, 29, 30, 31, 32, 33, 34, 35, 36, 37, 38, 39, 40, 41, 42, 43, 44, 45, 46]) 47 = true) (c47 : (Region.ready .any ops (LR 54 [0, 1, 2, 3, 4, 5, 6, 7, 8, 9, 10, 11, 12, 13, 14, 15, 16, 17, 18, 19, 20, 21, 22, 23, 24, 25, 26, 27, 28, 29, 30, 31, 32, 33, 34, 35, 36, 37, 38, 39, 40, 41, 42, 43, 44, 45, 46])).contains 47 = true)
    (f48 : Region.free .any ops (LR 54 [0, 1, 2, 3, 4, 5, 6, 7, 8, 9, 10, 11, 12, 13, 14, 15, 16, 17, 18, 19, 20, 21, 22, 23, 24, 25, 26, 27, 28, 29, 30, 31, 32, 33, 34, 35, 36, 37, 38, 39, 40, 41, 42, 43, 44, 45, 46, 47]) 48 = true) (c48 : (Region.ready .any ops (LR 54 [0, 1, 2, 3, 4, 5, 6, 7, 8, 9, 10, 11, 12, 13, 14, 15, 16, 17, 18, 19, 20, 21, 22, 23, 24, 25, 26, 27, 28, 29, 30, 31, 32, 33, 34, 35, 36, 37, 38, 39, 40, 41, 42, 43, 44, 45, 46, 47])).contains 48 = true)
    (f49 : Region.free .any ops (LR 54 [0, 1, 2, 3, 4, 5, 6, 7, 8, 9, 10, 11, 12, 13, 14, 15, 16, 17, 18, 19, 20, 21, 22, 23, 24, 25, 26, 27, 28, 29, 30, 31, 32, 33, 34, 35, 36, 37, 38, 39, 40, 41, 42, 43, 44, 45, 46, 47, 48]) 49 = true) (c49 : (Region.ready .any ops (LR 54 [0, 1, 2, 3, 4, 5, 6, 7, 8, 9, 10, 11, 12, 13, 14, 15, 16, 17, 18, 19, 20, 21, 22, 23, 24, 25, 26, 27, 28, 29, 30, 31, 32, 33, 34, 35, 36, 37, 38, 39, 40, 41, 42, 43, 44, 45, 46, 47, 48])).contains 49 = true)
    (f50 : Region.free .any ops (LR 54 [0, 1, 2, 3, 4, 5, 6, 7, 8, 9, 10, 11, 12, 13, 14, 15, 16, 17, 18, 19, 20, 21, 22, 23, 24, 25, 26, 27, 28, 29, 30, 31, 32, 33, 34, 35, 36, 37, 38, 39, 40, 41, 42, 43, 44, 45, 46, 47, 48, 49]) 50 = true) (c50 : (Region.ready .any ops (LR 54 [0, 1, 2, 3, 4, 5, 6, 7, 8, 9, 10, 11, 12, 13, 14, 15, 16, 17, 18, 19, 20, 21, 22, 23, 24, 25, 26, 27, 28, 29, 30, 31, 32, 33, 34, 35, 36, 37, 38, 39, 40, 41, 42, 43, 44, 45, 46, 47, 48, 49])).contains 50 = true)
    (f51 : Region.free .any ops (LR 54 [0, 1, 2, 3, 4, 5, 6, 7, 8, 9, 10, 11, 12, 13, 14, 15, 16, 17, 18, 19, 20, 21, 22, 23, 24, 25, 26, 27, 28, 29, 30, 31, 32, 33, 34, 35, 36, 37, 38, 39, 40, 41, 42, 43, 44, 45, 46, 47, 48, 49, 50]) 51 = true) (c51 : (Region.ready .any ops (LR 54 [0, 1, 2, 3, 4, 5, 6, 7, 8, 9, 10, 11, 12, 13, 14, 15, 16, 17, 18, 19, 20, 21, 22, 23, 24, 25, 26, 27, 28, 29, 30, 31, 32, 33, 34, 35, 36, 37, 38, 39, 40, 41, 42, 43, 44, 45, 46, 47, 48, 49, 50])).contains 51 = true)
    (f52 : Region.free .any ops (LR 54 [0, 1, 2, 3, 4, 5, 6, 7, 8, 9, 10, 11, 12, 13, 14, 15, 16, 17, 18, 19, 20, 21, 22, 23, 24, 25, 26, 27, 28, 29, 30, 31, 32, 33, 34, 35, 36, 37, 38, 39, 40, 41, 42, 43, 44, 45, 46, 47, 48, 49, 50, 51]) 52 = true) (c52 : (Region.ready .any ops (LR 54 [0, 1, 2, 3, 4, 5, 6, 7, 8, 9, 10, 11, 12, 13, 14, 15, 16, 17, 18, 19, 20, 21, 22, 23, 24, 25, 26, 27, 28, 29, 30, 31, 32, 33, 34, 35, 36, 37, 38, 39, 40, 41, 42, 43, 44, 45, 46, 47, 48, 49, 50, 51])).contains 52 = true)
    (f53 : Region.free .any ops (LR 54 [0, 1, 2, 3, 4, 5, 6, 7, 8, 9, 10, 11, 12, 13, 14, 15, 16, 17, 18, 19, 20, 21, 22, 23, 24, 25, 26, 27, 28, 29, 30, 31, 32, 33, 34, 35, 36, 37, 38, 39, 40, 41, 42, 43, 44, 45, 46, 47, 48, 49, 50, 51, 52]) 53 = true) (c53 : (Region.ready .any ops (LR 54 [0, 1, 2, 3, 4, 5, 6, 7, 8, 9, 10, 11, 12, 13, 14, 15, 16, 17, 18, 19, 20, 21, 22, 23, 24, 25, 26, 27, 28, 29, 30, 31, 32, 33, 34, 35, 36, 37, 38, 39, 40, 41, 42, 43, 44, 45, 46, 47, 48, 49, 50, 51, 52])).contains 53 = true)
    (rN : Region.ready .any ops (LR 54 [0, 1, 2, 3, 4, 5, 6, 7, 8, 9, 10, 11, 12, 13, 14, 15, 16, 17, 18, 19, 20, 21, 22, 23, 24, 25, 26, 27, 28, 29, 30, 31, 32, 33, 34, 35, 36, 37, 38, 39, 40, 41, 42, 43, 44, 45, 46, 47, 48, 49, 50, 51, 52, 53]) = [])
    (a : Act) (ha : a.tmps.size = 106) (G1 G2 : Nat) (ft gg : Nat → Int) (A Bb sa : Option Addr) (la ca lb cb Mc sn sd n0 : Nat) (xs : List Int) (W : World) (hS : TS G1 G2 ft gg Bb lb cb n0 xs W) (hcOf : ∀ X, Below W.heap.size W X → Calls Tryd.prog 19 #[.slice A la ca, .slice Bb lb cb] X fun e w' => e = .returned (.agg (nums .u8 32 ft)) ∧ Below X.heap.size X w') (hcSum : ∀ X, Below W.heap.size W X → Calls Tryd.prog 20 #[.pointer (some ⟨Mc, 0, none⟩)] X fun e w' => e = .returned (.agg (nums .u8 32 ft)) ∧ Below X.heap.size X w') (hcIsT : ∀ X, Below W.heap.size W X → Calls Tryd.prog 21 #[.pointer (some ⟨Mc, 0, none⟩), .agg (nums .u8 32 ft)] X fun e w' => e = .returned (.bool true) ∧ Below X.heap.size X w') (hcIsG : ∀ X, Below W.heap.size W X → Calls Tryd.prog 21 #[.pointer (some ⟨Mc, 0, none⟩), .agg (nums .u8 32 gg)] X fun e w' => e = .returned (.bool (sameH ft gg)) ∧ Below X.heap.size X w') (hcRG : ∀ X, Below W.heap.size W X → Calls Tryd.prog 22 #[.slice A la ca, .slice Bb lb cb, .agg (nums .u8 32 gg)] X fun e w' => e = .returned (.bool (sameH ft gg)) ∧ Below X.heap.size X w') (hcRT : ∀ X, Below W.heap.size W X → Calls Tryd.prog 22 #[.slice A la ca, .slice Bb lb cb, .agg (nums .u8 32 ft)] X fun e w' => e = .returned (.bool true) ∧ Below X.heap.size X w') (ha0 : a.eval (.tmp 0) = .slice A la ca) (ha1 : a.eval (.tmp 1) = .slice Bb lb cb) (ha6 : a.eval (.tmp 6) = .pointer (some ⟨G2, 0, none⟩)) (ha9 : a.eval (.tmp 9) = .string (strOfNums xs)) (ha10 : a.eval (.tmp 10) = .pointer (some ⟨G1, 0, none⟩)) (ha11 : a.eval (.tmp 11) = .pointer (some ⟨Mc, 0, none⟩)) (ha12 : a.eval (.tmp 12) = .slice sa sn sd) (ha13 : a.eval (.tmp 13) = .int .i64 (sn : Nat))
    (fin : ∀ X, Below W.heap.size W X → Q .normal (((((((((((((((((((((((((((((((((((((((((((((((((((((((a.put (some 53) (.slice A la ca)).put (some 54) (.slice Bb lb cb)).put (some 56) (.agg (nums .u8 32 ft))).put (some 55) (.agg (nums .u8 32 ft))).put (some 57) (.bool true)).put (some 58) (.bool true)).put (some 59) (.pointer (some ⟨Mc, 0, none⟩))).put (some 61) (.agg (nums .u8 32 ft))).put (some 60) (.agg (nums .u8 32 ft))).put (some 62) (.bool true)).put (some 63) (.bool true)).put (some 64) (.bool true)).put (some 65) (.pointer (some ⟨Mc, 0, none⟩))).put (some 66) (.agg (nums .u8 32 ft))).put (some 67) (.bool true)).put (some 68) (.bool true)).put (some 69) (.bool true)).put (some 70) (.pointer (some ⟨Mc, 0, none⟩))).put (some 71) (.agg (nums .u8 32 gg))).put (some 73) (.agg (nums .u8 32 gg))).put (some 74) (.agg (nums .u8 32 ft))).put (some 75) (.bool (sameH ft gg))).put (some 72) (.bool (sameH ft gg))).put (some 76) (.bool true)).put (some 77) (.bool true)).put (some 78) (.bool true)).put (some 79) (.slice A la ca)).put (some 80) (.slice Bb lb cb)).put (some 81) (.agg (nums .u8 32 gg))).put (some 83) (.agg (nums .u8 32 gg))).put (some 84) (.agg (nums .u8 32 ft))).put (some 85) (.bool (sameH ft gg))).put (some 82) (.bool (sameH ft gg))).put (some 86) (.bool true)).put (some 87) (.bool true)).put (some 88) (.bool true)).put (some 89) (.slice A la ca)).put (some 90) (.slice Bb lb cb)).put (some 91) (.agg (nums .u8 32 ft))).put (some 92) (.bool true)).put (some 93) (.bool true)).put (some 94) (.bool true)).put (some 95) (.slice sa sn sd)).put (some 96) (.int .i64 (sn : Nat))).put (some 97) (.int .i64 (sn : Nat))).put (some 98) (.bool true)).put (some 99) (.bool true)).put (some 100) (.bool true)).put (some 101) (.string (strOfNums xs))).put (some 102) (.slice Bb lb cb)).put (some 103) (.string (strOfNums xs))).put (some 104) (.bool true)).put (some 105) (.bool true)).put (some 8) (.bool true))) X) :
    (Code.region id L0.toArray true).wp Tryd.prog Q a W := by
  subst hops
  refine wp_mono (Q := plainQ Q) (wp_region_held (S := TS G1 G2 ft gg Bb lb cb n0 xs) (by kernel_rfl) ?_) (fun e a w h => by obtain ⟨rfl, h⟩ := h; exact h)
  change wpAnyH _ _ _ _ _ L0.toArray.size _ _ W.drew
  rw [hlen]
  rw [show Array.replicate 54 false = LR 54 [] from by decide]
  have hS0 := hS
  refine heldS_take (i := 0) (v := .slice A la ca) p0 hsel f0 c0 (wanted_none g0) (fun X hX => exec_move e0 (by simp [eval_putT, size_putT, ha, ha0, ha1, ha6, ha9, ha10, ha11, ha12, ha13])) hS ?_
  rw [show (LR 54 []).setIfInBounds 0 true = (LR 54 [0]) from by decide]
  rw [d0]
  refine heldS_take (i := 1) (v := .slice Bb lb cb) p1 hsel f1 c1 (wanted_none g1) (fun X hX => exec_move e1 (by simp [eval_putT, size_putT, ha, ha0, ha1, ha6, ha9, ha10, ha11, ha12, ha13])) hS ?_
  rw [show (LR 54 [0]).setIfInBounds 1 true = (LR 54 [0, 1]) from by decide]
  rw [d1]
  refine heldS_take (i := 3) (v := .agg (nums .u8 32 ft)) p3 hsel f3 c3 (wanted_none g3) (fun X hX => exec_loadhash e3 (by simp [eval_putT, size_putT, ha, ha0, ha1, ha6, ha9, ha10, ha11, ha12, ha13]) hX.1) hS ?_
  rw [show (LR 54 [0, 1]).setIfInBounds 3 true = (LR 54 [0, 1, 3]) from by decide]
  rw [d3]
  refine heldS_one p2 r2 (wanted_none g2) ?_
  refine wp_call e2 (by simp [eval_putT, size_putT, ha, ha0, ha1, ha6, ha9, ha10, ha11, ha12, ha13]) (enters_of Tryd.func19 (by kernel_rfl) rfl) (hcOf W.drew (Below.refl _ W).drew) ?_
  intro X1 q1
  have b1 := Below.draw1 q1
  have s1 := TS.below hS b1
  refine ⟨s1, ?_⟩
  rw [show (LR 54 [0, 1, 3]).setIfInBounds 2 true = (LR 54 [0, 1, 2, 3]) from by decide]
  rw [d2]
  refine heldS_take (i := 4) (v := .bool true) p4 hsel f4 c4 (wanted_none g4) (fun X hX => exec_eqhash (f := ft) e4 (by simp [eval_putT, size_putT, ha, ha0, ha1, ha6, ha9, ha10, ha11, ha12, ha13]) (by simp [eval_putT, size_putT, ha, ha0, ha1, ha6, ha9, ha10, ha11, ha12, ha13])) s1 ?_
  rw [show (LR 54 [0, 1, 2, 3]).setIfInBounds 4 true = (LR 54 [0, 1, 2, 3, 4]) from by decide]
  rw [d4]
  refine heldS_take (i := 5) (v := .bool true) p5 hsel f5 c5 (wanted_none g5) (fun X hX => exec_move e5 (by simp [eval_putT, size_putT, ha, ha0, ha1, ha6, ha9, ha10, ha11, ha12, ha13])) s1 ?_
  rw [show (LR 54 [0, 1, 2, 3, 4]).setIfInBounds 5 true = (LR 54 [0, 1, 2, 3, 4, 5]) from by decide]
  rw [d5]
  refine heldS_take (i := 6) (v := .pointer (some ⟨Mc, 0, none⟩)) p6 hsel f6 c6 (wanted_some g6 p5 d5 (by simp [size_putT, ha]) (by simp [eval_putT, size_putT, ha, ha0, ha1, ha6, ha9, ha10, ha11, ha12, ha13])) (fun X hX => exec_move e6 (by simp [eval_putT, size_putT, ha, ha0, ha1, ha6, ha9, ha10, ha11, ha12, ha13])) s1 ?_
  rw [show (LR 54 [0, 1, 2, 3, 4, 5]).setIfInBounds 6 true = (LR 54 [0, 1, 2, 3, 4, 5, 6]) from by decide]
  rw [d6]
  refine heldS_take (i := 8) (v := .agg (nums .u8 32 ft)) p8 hsel f8 c8 (wanted_some g8 p5 d5 (by simp [size_putT, ha]) (by simp [eval_putT, size_putT, ha, ha0, ha1, ha6, ha9, ha10, ha11, ha12, ha13])) (fun X hX => exec_loadhash e8 (by simp [eval_putT, size_putT, ha, ha0, ha1, ha6, ha9, ha10, ha11, ha12, ha13]) hX.1) s1 ?_
  rw [show (LR 54 [0, 1, 2, 3, 4, 5, 6]).setIfInBounds 8 true = (LR 54 [0, 1, 2, 3, 4, 5, 6, 8]) from by decide]
  rw [d8]
  refine heldS_one p7 r7 (wanted_some g7 p5 d5 (by simp [size_putT, ha]) (by simp [eval_putT, size_putT, ha, ha0, ha1, ha6, ha9, ha10, ha11, ha12, ha13])) ?_
  refine wp_call e7 (by simp [eval_putT, size_putT, ha, ha0, ha1, ha6, ha9, ha10, ha11, ha12, ha13]) (enters_of Tryd.func20 (by kernel_rfl) rfl) (hcSum X1 b1) ?_
  intro X2 q2
  have b2 := b1.trans (q2.mono b1.size)
  have s2 := TS.below hS b2
  refine ⟨s2, ?_⟩
  rw [show (LR 54 [0, 1, 2, 3, 4, 5, 6, 8]).setIfInBounds 7 true = (LR 54 [0, 1, 2, 3, 4, 5, 6, 7, 8]) from by decide]
  rw [d7]
  refine heldS_take (i := 9) (v := .bool true) p9 hsel f9 c9 (wanted_some g9 p5 d5 (by simp [size_putT, ha]) (by simp [eval_putT, size_putT, ha, ha0, ha1, ha6, ha9, ha10, ha11, ha12, ha13])) (fun X hX => exec_eqhash (f := ft) e9 (by simp [eval_putT, size_putT, ha, ha0, ha1, ha6, ha9, ha10, ha11, ha12, ha13]) (by simp [eval_putT, size_putT, ha, ha0, ha1, ha6, ha9, ha10, ha11, ha12, ha13])) s2 ?_
  rw [show (LR 54 [0, 1, 2, 3, 4, 5, 6, 7, 8]).setIfInBounds 9 true = (LR 54 [0, 1, 2, 3, 4, 5, 6, 7, 8, 9]) from by decide]
  rw [d9]
  refine heldS_take (i := 10) (v := .bool true) p10 hsel f10 c10 (wanted_none g10) (fun X hX => exec_pick (b := true) (v := .bool true) e10 (by simp [eval_putT, size_putT, ha, ha0, ha1, ha6, ha9, ha10, ha11, ha12, ha13]) (by simp [eval_putT, size_putT, ha, ha0, ha1, ha6, ha9, ha10, ha11, ha12, ha13]) rfl) s2 ?_
  rw [show (LR 54 [0, 1, 2, 3, 4, 5, 6, 7, 8, 9]).setIfInBounds 10 true = (LR 54 [0, 1, 2, 3, 4, 5, 6, 7, 8, 9, 10]) from by decide]
  rw [d10]
  refine heldS_take (i := 11) (v := .bool true) p11 hsel f11 c11 (wanted_none g11) (fun X hX => exec_move e11 (by simp [eval_putT, size_putT, ha, ha0, ha1, ha6, ha9, ha10, ha11, ha12, ha13])) s2 ?_
  rw [show (LR 54 [0, 1, 2, 3, 4, 5, 6, 7, 8, 9, 10]).setIfInBounds 11 true = (LR 54 [0, 1, 2, 3, 4, 5, 6, 7, 8, 9, 10, 11]) from by decide]
  rw [d11]
  refine heldS_take (i := 12) (v := .pointer (some ⟨Mc, 0, none⟩)) p12 hsel f12 c12 (wanted_some g12 p11 d11 (by simp [size_putT, ha]) (by simp [eval_putT, size_putT, ha, ha0, ha1, ha6, ha9, ha10, ha11, ha12, ha13])) (fun X hX => exec_move e12 (by simp [eval_putT, size_putT, ha, ha0, ha1, ha6, ha9, ha10, ha11, ha12, ha13])) s2 ?_
  rw [show (LR 54 [0, 1, 2, 3, 4, 5, 6, 7, 8, 9, 10, 11]).setIfInBounds 12 true = (LR 54 [0, 1, 2, 3, 4, 5, 6, 7, 8, 9, 10, 11, 12]) from by decide]
  rw [d12]
  refine heldS_take (i := 13) (v := .agg (nums .u8 32 ft)) p13 hsel f13 c13 (wanted_some g13 p11 d11 (by simp [size_putT, ha]) (by simp [eval_putT, size_putT, ha, ha0, ha1, ha6, ha9, ha10, ha11, ha12, ha13])) (fun X hX => exec_loadhash e13 (by simp [eval_putT, size_putT, ha, ha0, ha1, ha6, ha9, ha10, ha11, ha12, ha13]) hX.1) s2 ?_
  rw [show (LR 54 [0, 1, 2, 3, 4, 5, 6, 7, 8, 9, 10, 11, 12]).setIfInBounds 13 true = (LR 54 [0, 1, 2, 3, 4, 5, 6, 7, 8, 9, 10, 11, 12, 13]) from by decide]
  rw [d13]
  refine heldS_one p14 r14 (wanted_some g14 p11 d11 (by simp [size_putT, ha]) (by simp [eval_putT, size_putT, ha, ha0, ha1, ha6, ha9, ha10, ha11, ha12, ha13])) ?_
  refine wp_call e14 (by simp [eval_putT, size_putT, ha, ha0, ha1, ha6, ha9, ha10, ha11, ha12, ha13]) (enters_of Tryd.func21 (by kernel_rfl) rfl) (hcIsT X2 b2) ?_
  intro X3 q3
  have b3 := b2.trans (q3.mono b2.size)
  have s3 := TS.below hS b3
  refine ⟨s3, ?_⟩
  rw [show (LR 54 [0, 1, 2, 3, 4, 5, 6, 7, 8, 9, 10, 11, 12, 13]).setIfInBounds 14 true = (LR 54 [0, 1, 2, 3, 4, 5, 6, 7, 8, 9, 10, 11, 12, 13, 14]) from by decide]
  rw [d14]
  refine heldS_take (i := 15) (v := .bool true) p15 hsel f15 c15 (wanted_none g15) (fun X hX => exec_pick (b := true) (v := .bool true) e15 (by simp [eval_putT, size_putT, ha, ha0, ha1, ha6, ha9, ha10, ha11, ha12, ha13]) (by simp [eval_putT, size_putT, ha, ha0, ha1, ha6, ha9, ha10, ha11, ha12, ha13]) rfl) s3 ?_
  rw [show (LR 54 [0, 1, 2, 3, 4, 5, 6, 7, 8, 9, 10, 11, 12, 13, 14]).setIfInBounds 15 true = (LR 54 [0, 1, 2, 3, 4, 5, 6, 7, 8, 9, 10, 11, 12, 13, 14, 15]) from by decide]
  rw [d15]
  refine heldS_take (i := 16) (v := .bool true) p16 hsel f16 c16 (wanted_none g16) (fun X hX => exec_move e16 (by simp [eval_putT, size_putT, ha, ha0, ha1, ha6, ha9, ha10, ha11, ha12, ha13])) s3 ?_
  rw [show (LR 54 [0, 1, 2, 3, 4, 5, 6, 7, 8, 9, 10, 11, 12, 13, 14, 15]).setIfInBounds 16 true = (LR 54 [0, 1, 2, 3, 4, 5, 6, 7, 8, 9, 10, 11, 12, 13, 14, 15, 16]) from by decide]
  rw [d16]
  refine heldS_take (i := 17) (v := .pointer (some ⟨Mc, 0, none⟩)) p17 hsel f17 c17 (wanted_some g17 p16 d16 (by simp [size_putT, ha]) (by simp [eval_putT, size_putT, ha, ha0, ha1, ha6, ha9, ha10, ha11, ha12, ha13])) (fun X hX => exec_move e17 (by simp [eval_putT, size_putT, ha, ha0, ha1, ha6, ha9, ha10, ha11, ha12, ha13])) s3 ?_
  rw [show (LR 54 [0, 1, 2, 3, 4, 5, 6, 7, 8, 9, 10, 11, 12, 13, 14, 15, 16]).setIfInBounds 17 true = (LR 54 [0, 1, 2, 3, 4, 5, 6, 7, 8, 9, 10, 11, 12, 13, 14, 15, 16, 17]) from by decide]
  rw [d17]
  refine heldS_take (i := 18) (v := .agg (nums .u8 32 gg)) p18 hsel f18 c18 (wanted_some g18 p16 d16 (by simp [size_putT, ha]) (by simp [eval_putT, size_putT, ha, ha0, ha1, ha6, ha9, ha10, ha11, ha12, ha13])) (fun X hX => exec_loadhash e18 (by simp [eval_putT, size_putT, ha, ha0, ha1, ha6, ha9, ha10, ha11, ha12, ha13]) hX.2.1) s3 ?_
  rw [show (LR 54 [0, 1, 2, 3, 4, 5, 6, 7, 8, 9, 10, 11, 12, 13, 14, 15, 16, 17]).setIfInBounds 18 true = (LR 54 [0, 1, 2, 3, 4, 5, 6, 7, 8, 9, 10, 11, 12, 13, 14, 15, 16, 17, 18]) from by decide]
  rw [d18]
  refine heldS_take (i := 20) (v := .agg (nums .u8 32 gg)) p20 hsel f20 c20 (wanted_some g20 p16 d16 (by simp [size_putT, ha]) (by simp [eval_putT, size_putT, ha, ha0, ha1, ha6, ha9, ha10, ha11, ha12, ha13])) (fun X hX => exec_loadhash e20 (by simp [eval_putT, size_putT, ha, ha0, ha1, ha6, ha9, ha10, ha11, ha12, ha13]) hX.2.1) s3 ?_
  rw [show (LR 54 [0, 1, 2, 3, 4, 5, 6, 7, 8, 9, 10, 11, 12, 13, 14, 15, 16, 17, 18]).setIfInBounds 20 true = (LR 54 [0, 1, 2, 3, 4, 5, 6, 7, 8, 9, 10, 11, 12, 13, 14, 15, 16, 17, 18, 20]) from by decide]
  rw [d20]
  refine heldS_take (i := 21) (v := .agg (nums .u8 32 ft)) p21 hsel f21 c21 (wanted_some g21 p16 d16 (by simp [size_putT, ha]) (by simp [eval_putT, size_putT, ha, ha0, ha1, ha6, ha9, ha10, ha11, ha12, ha13])) (fun X hX => exec_loadhash e21 (by simp [eval_putT, size_putT, ha, ha0, ha1, ha6, ha9, ha10, ha11, ha12, ha13]) hX.1) s3 ?_
  rw [show (LR 54 [0, 1, 2, 3, 4, 5, 6, 7, 8, 9, 10, 11, 12, 13, 14, 15, 16, 17, 18, 20]).setIfInBounds 21 true = (LR 54 [0, 1, 2, 3, 4, 5, 6, 7, 8, 9, 10, 11, 12, 13, 14, 15, 16, 17, 18, 20, 21]) from by decide]
  rw [d21]
  refine heldS_take (i := 22) (v := .bool (sameH ft gg)) p22 hsel f22 c22 (wanted_some g22 p16 d16 (by simp [size_putT, ha]) (by simp [eval_putT, size_putT, ha, ha0, ha1, ha6, ha9, ha10, ha11, ha12, ha13])) (fun X hX => (sameH_comm gg ft ▸ exec_eqhash2 (f := gg) (g := ft) e22 (by simp [eval_putT, size_putT, ha, ha0, ha1, ha6, ha9, ha10, ha11, ha12, ha13]) (by simp [eval_putT, size_putT, ha, ha0, ha1, ha6, ha9, ha10, ha11, ha12, ha13]))) s3 ?_
  rw [show (LR 54 [0, 1, 2, 3, 4, 5, 6, 7, 8, 9, 10, 11, 12, 13, 14, 15, 16, 17, 18, 20, 21]).setIfInBounds 22 true = (LR 54 [0, 1, 2, 3, 4, 5, 6, 7, 8, 9, 10, 11, 12, 13, 14, 15, 16, 17, 18, 20, 21, 22]) from by decide]
  rw [d22]
  refine heldS_one p19 r19 (wanted_some g19 p16 d16 (by simp [size_putT, ha]) (by simp [eval_putT, size_putT, ha, ha0, ha1, ha6, ha9, ha10, ha11, ha12, ha13])) ?_
  refine wp_call e19 (by simp [eval_putT, size_putT, ha, ha0, ha1, ha6, ha9, ha10, ha11, ha12, ha13]) (enters_of Tryd.func21 (by kernel_rfl) rfl) (hcIsG X3 b3) ?_
  intro X4 q4
  have b4 := b3.trans (q4.mono b3.size)
  have s4 := TS.below hS b4
  refine ⟨s4, ?_⟩
  rw [show (LR 54 [0, 1, 2, 3, 4, 5, 6, 7, 8, 9, 10, 11, 12, 13, 14, 15, 16, 17, 18, 20, 21, 22]).setIfInBounds 19 true = (LR 54 [0, 1, 2, 3, 4, 5, 6, 7, 8, 9, 10, 11, 12, 13, 14, 15, 16, 17, 18, 19, 20, 21, 22]) from by decide]
  rw [d19]
  refine heldS_take (i := 23) (v := .bool true) p23 hsel f23 c23 (wanted_some g23 p16 d16 (by simp [size_putT, ha]) (by simp [eval_putT, size_putT, ha, ha0, ha1, ha6, ha9, ha10, ha11, ha12, ha13])) (fun X hX => exec_eqbool (b := sameH ft gg) e23 (by simp [eval_putT, size_putT, ha, ha0, ha1, ha6, ha9, ha10, ha11, ha12, ha13]) (by simp [eval_putT, size_putT, ha, ha0, ha1, ha6, ha9, ha10, ha11, ha12, ha13])) s4 ?_
  rw [show (LR 54 [0, 1, 2, 3, 4, 5, 6, 7, 8, 9, 10, 11, 12, 13, 14, 15, 16, 17, 18, 19, 20, 21, 22]).setIfInBounds 23 true = (LR 54 [0, 1, 2, 3, 4, 5, 6, 7, 8, 9, 10, 11, 12, 13, 14, 15, 16, 17, 18, 19, 20, 21, 22, 23]) from by decide]
  rw [d23]
  refine heldS_take (i := 24) (v := .bool true) p24 hsel f24 c24 (wanted_none g24) (fun X hX => exec_pick (b := true) (v := .bool true) e24 (by simp [eval_putT, size_putT, ha, ha0, ha1, ha6, ha9, ha10, ha11, ha12, ha13]) (by simp [eval_putT, size_putT, ha, ha0, ha1, ha6, ha9, ha10, ha11, ha12, ha13]) rfl) s4 ?_
  rw [show (LR 54 [0, 1, 2, 3, 4, 5, 6, 7, 8, 9, 10, 11, 12, 13, 14, 15, 16, 17, 18, 19, 20, 21, 22, 23]).setIfInBounds 24 true = (LR 54 [0, 1, 2, 3, 4, 5, 6, 7, 8, 9, 10, 11, 12, 13, 14, 15, 16, 17, 18, 19, 20, 21, 22, 23, 24]) from by decide]
  rw [d24]
  refine heldS_take (i := 25) (v := .bool true) p25 hsel f25 c25 (wanted_none g25) (fun X hX => exec_move e25 (by simp [eval_putT, size_putT, ha, ha0, ha1, ha6, ha9, ha10, ha11, ha12, ha13])) s4 ?_
  rw [show (LR 54 [0, 1, 2, 3, 4, 5, 6, 7, 8, 9, 10, 11, 12, 13, 14, 15, 16, 17, 18, 19, 20, 21, 22, 23, 24]).setIfInBounds 25 true = (LR 54 [0, 1, 2, 3, 4, 5, 6, 7, 8, 9, 10, 11, 12, 13, 14, 15, 16, 17, 18, 19, 20, 21, 22, 23, 24, 25]) from by decide]
  rw [d25]
  refine heldS_take (i := 26) (v := .slice A la ca) p26 hsel f26 c26 (wanted_some g26 p25 d25 (by simp [size_putT, ha]) (by simp [eval_putT, size_putT, ha, ha0, ha1, ha6, ha9, ha10, ha11, ha12, ha13])) (fun X hX => exec_move e26 (by simp [eval_putT, size_putT, ha, ha0, ha1, ha6, ha9, ha10, ha11, ha12, ha13])) s4 ?_
  rw [show (LR 54 [0, 1, 2, 3, 4, 5, 6, 7, 8, 9, 10, 11, 12, 13, 14, 15, 16, 17, 18, 19, 20, 21, 22, 23, 24, 25]).setIfInBounds 26 true = (LR 54 [0, 1, 2, 3, 4, 5, 6, 7, 8, 9, 10, 11, 12, 13, 14, 15, 16, 17, 18, 19, 20, 21, 22, 23, 24, 25, 26]) from by decide]
  rw [d26]
  refine heldS_take (i := 27) (v := .slice Bb lb cb) p27 hsel f27 c27 (wanted_some g27 p25 d25 (by simp [size_putT, ha]) (by simp [eval_putT, size_putT, ha, ha0, ha1, ha6, ha9, ha10, ha11, ha12, ha13])) (fun X hX => exec_move e27 (by simp [eval_putT, size_putT, ha, ha0, ha1, ha6, ha9, ha10, ha11, ha12, ha13])) s4 ?_
  rw [show (LR 54 [0, 1, 2, 3, 4, 5, 6, 7, 8, 9, 10, 11, 12, 13, 14, 15, 16, 17, 18, 19, 20, 21, 22, 23, 24, 25, 26]).setIfInBounds 27 true = (LR 54 [0, 1, 2, 3, 4, 5, 6, 7, 8, 9, 10, 11, 12, 13, 14, 15, 16, 17, 18, 19, 20, 21, 22, 23, 24, 25, 26, 27]) from by decide]
  rw [d27]
  refine heldS_take (i := 28) (v := .agg (nums .u8 32 gg)) p28 hsel f28 c28 (wanted_some g28 p25 d25 (by simp [size_putT, ha]) (by simp [eval_putT, size_putT, ha, ha0, ha1, ha6, ha9, ha10, ha11, ha12, ha13])) (fun X hX => exec_loadhash e28 (by simp [eval_putT, size_putT, ha, ha0, ha1, ha6, ha9, ha10, ha11, ha12, ha13]) hX.2.1) s4 ?_
  rw [show (LR 54 [0, 1, 2, 3, 4, 5, 6, 7, 8, 9, 10, 11, 12, 13, 14, 15, 16, 17, 18, 19, 20, 21, 22, 23, 24, 25, 26, 27]).setIfInBounds 28 true = (LR 54 [0, 1, 2, 3, 4, 5, 6, 7, 8, 9, 10, 11, 12, 13, 14, 15, 16, 17, 18, 19, 20, 21, 22, 23, 24, 25, 26, 27, 28]) from by decide]
  rw [d28]
  refine heldS_take (i := 30) (v := .agg (nums .u8 32 gg)) p30 hsel f30 c30 (wanted_some g30 p25 d25 (by simp [size_putT, ha]) (by simp [eval_putT, size_putT, ha, ha0, ha1, ha6, ha9, ha10, ha11, ha12, ha13])) (fun X hX => exec_loadhash e30 (by simp [eval_putT, size_putT, ha, ha0, ha1, ha6, ha9, ha10, ha11, ha12, ha13]) hX.2.1) s4 ?_
  rw [show (LR 54 [0, 1, 2, 3, 4, 5, 6, 7, 8, 9, 10, 11, 12, 13, 14, 15, 16, 17, 18, 19, 20, 21, 22, 23, 24, 25, 26, 27, 28]).setIfInBounds 30 true = (LR 54 [0, 1, 2, 3, 4, 5, 6, 7, 8, 9, 10, 11, 12, 13, 14, 15, 16, 17, 18, 19, 20, 21, 22, 23, 24, 25, 26, 27, 28, 30]) from by decide]
  rw [d30]
  refine heldS_take (i := 31) (v := .agg (nums .u8 32 ft)) p31 hsel f31 c31 (wanted_some g31 p25 d25 (by simp [size_putT, ha]) (by simp [eval_putT, size_putT, ha, ha0, ha1, ha6, ha9, ha10, ha11, ha12, ha13])) (fun X hX => exec_loadhash e31 (by simp [eval_putT, size_putT, ha, ha0, ha1, ha6, ha9, ha10, ha11, ha12, ha13]) hX.1) s4 ?_
  rw [show (LR 54 [0, 1, 2, 3, 4, 5, 6, 7, 8, 9, 10, 11, 12, 13, 14, 15, 16, 17, 18, 19, 20, 21, 22, 23, 24, 25, 26, 27, 28, 30]).setIfInBounds 31 true = (LR 54 [0, 1, 2, 3, 4, 5, 6, 7, 8, 9, 10, 11, 12, 13, 14, 15, 16, 17, 18, 19, 20, 21, 22, 23, 24, 25, 26, 27, 28, 30, 31]) from by decide]
  rw [d31]
  refine heldS_take (i := 32) (v := .bool (sameH ft gg)) p32 hsel f32 c32 (wanted_some g32 p25 d25 (by simp [size_putT, ha]) (by simp [eval_putT, size_putT, ha, ha0, ha1, ha6, ha9, ha10, ha11, ha12, ha13])) (fun X hX => (sameH_comm gg ft ▸ exec_eqhash2 (f := gg) (g := ft) e32 (by simp [eval_putT, size_putT, ha, ha0, ha1, ha6, ha9, ha10, ha11, ha12, ha13]) (by simp [eval_putT, size_putT, ha, ha0, ha1, ha6, ha9, ha10, ha11, ha12, ha13]))) s4 ?_
  rw [show (LR 54 [0, 1, 2, 3, 4, 5, 6, 7, 8, 9, 10, 11, 12, 13, 14, 15, 16, 17, 18, 19, 20, 21, 22, 23, 24, 25, 26, 27, 28, 30, 31]).setIfInBounds 32 true = (LR 54 [0, 1, 2, 3, 4, 5, 6, 7, 8, 9, 10, 11, 12, 13, 14, 15, 16, 17, 18, 19, 20, 21, 22, 23, 24, 25, 26, 27, 28, 30, 31, 32]) from by decide]
  rw [d32]
  refine heldS_one p29 r29 (wanted_some g29 p25 d25 (by simp [size_putT, ha]) (by simp [eval_putT, size_putT, ha, ha0, ha1, ha6, ha9, ha10, ha11, ha12, ha13])) ?_
  refine wp_call e29 (by simp [eval_putT, size_putT, ha, ha0, ha1, ha6, ha9, ha10, ha11, ha12, ha13]) (enters_of Tryd.func22 (by kernel_rfl) rfl) (hcRG X4 b4) ?_
  intro X5 q5
  have b5 := b4.trans (q5.mono b4.size)
  have s5 := TS.below hS b5
  refine ⟨s5, ?_⟩
  rw [show (LR 54 [0, 1, 2, 3, 4, 5, 6, 7, 8, 9, 10, 11, 12, 13, 14, 15, 16, 17, 18, 19, 20, 21, 22, 23, 24, 25, 26, 27, 28, 30, 31, 32]).setIfInBounds 29 true = (LR 54 [0, 1, 2, 3, 4, 5, 6, 7, 8, 9, 10, 11, 12, 13, 14, 15, 16, 17, 18, 19, 20, 21, 22, 23, 24, 25, 26, 27, 28, 29, 30, 31, 32]) from by decide]
  rw [d29]
  refine heldS_take (i := 33) (v := .bool true) p33 hsel f33 c33 (wanted_some g33 p25 d25 (by simp [size_putT, ha]) (by simp [eval_putT, size_putT, ha, ha0, ha1, ha6, ha9, ha10, ha11, ha12, ha13])) (fun X hX => exec_eqbool (b := sameH ft gg) e33 (by simp [eval_putT, size_putT, ha, ha0, ha1, ha6, ha9, ha10, ha11, ha12, ha13]) (by simp [eval_putT, size_putT, ha, ha0, ha1, ha6, ha9, ha10, ha11, ha12, ha13])) s5 ?_
  rw [show (LR 54 [0, 1, 2, 3, 4, 5, 6, 7, 8, 9, 10, 11, 12, 13, 14, 15, 16, 17, 18, 19, 20, 21, 22, 23, 24, 25, 26, 27, 28, 29, 30, 31, 32]).setIfInBounds 33 true = (LR 54 [0, 1, 2, 3, 4, 5, 6, 7, 8, 9, 10, 11, 12, 13, 14, 15, 16, 17, 18, 19, 20, 21, 22, 23, 24, 25, 26, 27, 28, 29, 30, 31, 32, 33]) from by decide]
  rw [d33]
  refine heldS_take (i := 34) (v := .bool true) p34 hsel f34 c34 (wanted_none g34) (fun X hX => exec_pick (b := true) (v := .bool true) e34 (by simp [eval_putT, size_putT, ha, ha0, ha1, ha6, ha9, ha10, ha11, ha12, ha13]) (by simp [eval_putT, size_putT, ha, ha0, ha1, ha6, ha9, ha10, ha11, ha12, ha13]) rfl) s5 ?_
  rw [show (LR 54 [0, 1, 2, 3, 4, 5, 6, 7, 8, 9, 10, 11, 12, 13, 14, 15, 16, 17, 18, 19, 20, 21, 22, 23, 24, 25, 26, 27, 28, 29, 30, 31, 32, 33]).setIfInBounds 34 true = (LR 54 [0, 1, 2, 3, 4, 5, 6, 7, 8, 9, 10, 11, 12, 13, 14, 15, 16, 17, 18, 19, 20, 21, 22, 23, 24, 25, 26, 27, 28, 29, 30, 31, 32, 33, 34]) from by decide]
  rw [d34]
  refine heldS_take (i := 35) (v := .bool true) p35 hsel f35 c35 (wanted_none g35) (fun X hX => exec_move e35 (by simp [eval_putT, size_putT, ha, ha0, ha1, ha6, ha9, ha10, ha11, ha12, ha13])) s5 ?_
  rw [show (LR 54 [0, 1, 2, 3, 4, 5, 6, 7, 8, 9, 10, 11, 12, 13, 14, 15, 16, 17, 18, 19, 20, 21, 22, 23, 24, 25, 26, 27, 28, 29, 30, 31, 32, 33, 34]).setIfInBounds 35 true = (LR 54 [0, 1, 2, 3, 4, 5, 6, 7, 8, 9, 10, 11, 12, 13, 14, 15, 16, 17, 18, 19, 20, 21, 22, 23, 24, 25, 26, 27, 28, 29, 30, 31, 32, 33, 34, 35]) from by decide]
  rw [d35]
  refine heldS_take (i := 36) (v := .slice A la ca) p36 hsel f36 c36 (wanted_some g36 p35 d35 (by simp [size_putT, ha]) (by simp [eval_putT, size_putT, ha, ha0, ha1, ha6, ha9, ha10, ha11, ha12, ha13])) (fun X hX => exec_move e36 (by simp [eval_putT, size_putT, ha, ha0, ha1, ha6, ha9, ha10, ha11, ha12, ha13])) s5 ?_
  rw [show (LR 54 [0, 1, 2, 3, 4, 5, 6, 7, 8, 9, 10, 11, 12, 13, 14, 15, 16, 17, 18, 19, 20, 21, 22, 23, 24, 25, 26, 27, 28, 29, 30, 31, 32, 33, 34, 35]).setIfInBounds 36 true = (LR 54 [0, 1, 2, 3, 4, 5, 6, 7, 8, 9, 10, 11, 12, 13, 14, 15, 16, 17, 18, 19, 20, 21, 22, 23, 24, 25, 26, 27, 28, 29, 30, 31, 32, 33, 34, 35, 36]) from by decide]
  rw [d36]
  refine heldS_take (i := 37) (v := .slice Bb lb cb) p37 hsel f37 c37 (wanted_some g37 p35 d35 (by simp [size_putT, ha]) (by simp [eval_putT, size_putT, ha, ha0, ha1, ha6, ha9, ha10, ha11, ha12, ha13])) (fun X hX => exec_move e37 (by simp [eval_putT, size_putT, ha, ha0, ha1, ha6, ha9, ha10, ha11, ha12, ha13])) s5 ?_
  rw [show (LR 54 [0, 1, 2, 3, 4, 5, 6, 7, 8, 9, 10, 11, 12, 13, 14, 15, 16, 17, 18, 19, 20, 21, 22, 23, 24, 25, 26, 27, 28, 29, 30, 31, 32, 33, 34, 35, 36]).setIfInBounds 37 true = (LR 54 [0, 1, 2, 3, 4, 5, 6, 7, 8, 9, 10, 11, 12, 13, 14, 15, 16, 17, 18, 19, 20, 21, 22, 23, 24, 25, 26, 27, 28, 29, 30, 31, 32, 33, 34, 35, 36, 37]) from by decide]
  rw [d37]
  refine heldS_take (i := 38) (v := .agg (nums .u8 32 ft)) p38 hsel f38 c38 (wanted_some g38 p35 d35 (by simp [size_putT, ha]) (by simp [eval_putT, size_putT, ha, ha0, ha1, ha6, ha9, ha10, ha11, ha12, ha13])) (fun X hX => exec_loadhash e38 (by simp [eval_putT, size_putT, ha, ha0, ha1, ha6, ha9, ha10, ha11, ha12, ha13]) hX.1) s5 ?_
  rw [show (LR 54 [0, 1, 2, 3, 4, 5, 6, 7, 8, 9, 10, 11, 12, 13, 14, 15, 16, 17, 18, 19, 20, 21, 22, 23, 24, 25, 26, 27, 28, 29, 30, 31, 32, 33, 34, 35, 36, 37]).setIfInBounds 38 true = (LR 54 [0, 1, 2, 3, 4, 5, 6, 7, 8, 9, 10, 11, 12, 13, 14, 15, 16, 17, 18, 19, 20, 21, 22, 23, 24, 25, 26, 27, 28, 29, 30, 31, 32, 33, 34, 35, 36, 37, 38]) from by decide]
  rw [d38]
  refine heldS_one p39 r39 (wanted_some g39 p35 d35 (by simp [size_putT, ha]) (by simp [eval_putT, size_putT, ha, ha0, ha1, ha6, ha9, ha10, ha11, ha12, ha13])) ?_
  refine wp_call e39 (by simp [eval_putT, size_putT, ha, ha0, ha1, ha6, ha9, ha10, ha11, ha12, ha13]) (enters_of Tryd.func22 (by kernel_rfl) rfl) (hcRT X5 b5) ?_
  intro X6 q6
  have b6 := b5.trans (q6.mono b5.size)
  have s6 := TS.below hS b6
  refine ⟨s6, ?_⟩
  rw [show (LR 54 [0, 1, 2, 3, 4, 5, 6, 7, 8, 9, 10, 11, 12, 13, 14, 15, 16, 17, 18, 19, 20, 21, 22, 23, 24, 25, 26, 27, 28, 29, 30, 31, 32, 33, 34, 35, 36, 37, 38]).setIfInBounds 39 true = (LR 54 [0, 1, 2, 3, 4, 5, 6, 7, 8, 9, 10, 11, 12, 13, 14, 15, 16, 17, 18, 19, 20, 21, 22, 23, 24, 25, 26, 27, 28, 29, 30, 31, 32, 33, 34, 35, 36, 37, 38, 39]) from by decide]
  rw [d39]
  refine heldS_take (i := 40) (v := .bool true) p40 hsel f40 c40 (wanted_none g40) (fun X hX => exec_pick (b := true) (v := .bool true) e40 (by simp [eval_putT, size_putT, ha, ha0, ha1, ha6, ha9, ha10, ha11, ha12, ha13]) (by simp [eval_putT, size_putT, ha, ha0, ha1, ha6, ha9, ha10, ha11, ha12, ha13]) rfl) s6 ?_
  rw [show (LR 54 [0, 1, 2, 3, 4, 5, 6, 7, 8, 9, 10, 11, 12, 13, 14, 15, 16, 17, 18, 19, 20, 21, 22, 23, 24, 25, 26, 27, 28, 29, 30, 31, 32, 33, 34, 35, 36, 37, 38, 39]).setIfInBounds 40 true = (LR 54 [0, 1, 2, 3, 4, 5, 6, 7, 8, 9, 10, 11, 12, 13, 14, 15, 16, 17, 18, 19, 20, 21, 22, 23, 24, 25, 26, 27, 28, 29, 30, 31, 32, 33, 34, 35, 36, 37, 38, 39, 40]) from by decide]
  rw [d40]
  refine heldS_take (i := 41) (v := .bool true) p41 hsel f41 c41 (wanted_none g41) (fun X hX => exec_move e41 (by simp [eval_putT, size_putT, ha, ha0, ha1, ha6, ha9, ha10, ha11, ha12, ha13])) s6 ?_
  rw [show (LR 54 [0, 1, 2, 3, 4, 5, 6, 7, 8, 9, 10, 11, 12, 13, 14, 15, 16, 17, 18, 19, 20, 21, 22, 23, 24, 25, 26, 27, 28, 29, 30, 31, 32, 33, 34, 35, 36, 37, 38, 39, 40]).setIfInBounds 41 true = (LR 54 [0, 1, 2, 3, 4, 5, 6, 7, 8, 9, 10, 11, 12, 13, 14, 15, 16, 17, 18, 19, 20, 21, 22, 23, 24, 25, 26, 27, 28, 29, 30, 31, 32, 33, 34, 35, 36, 37, 38, 39, 40, 41]) from by decide]
  rw [d41]
  refine heldS_take (i := 42) (v := .slice sa sn sd) p42 hsel f42 c42 (wanted_some g42 p41 d41 (by simp [size_putT, ha]) (by simp [eval_putT, size_putT, ha, ha0, ha1, ha6, ha9, ha10, ha11, ha12, ha13])) (fun X hX => exec_move e42 (by simp [eval_putT, size_putT, ha, ha0, ha1, ha6, ha9, ha10, ha11, ha12, ha13])) s6 ?_
  rw [show (LR 54 [0, 1, 2, 3, 4, 5, 6, 7, 8, 9, 10, 11, 12, 13, 14, 15, 16, 17, 18, 19, 20, 21, 22, 23, 24, 25, 26, 27, 28, 29, 30, 31, 32, 33, 34, 35, 36, 37, 38, 39, 40, 41]).setIfInBounds 42 true = (LR 54 [0, 1, 2, 3, 4, 5, 6, 7, 8, 9, 10, 11, 12, 13, 14, 15, 16, 17, 18, 19, 20, 21, 22, 23, 24, 25, 26, 27, 28, 29, 30, 31, 32, 33, 34, 35, 36, 37, 38, 39, 40, 41, 42]) from by decide]
  rw [d42]
  refine heldS_take (i := 43) (v := .int .i64 (sn : Nat)) p43 hsel f43 c43 (wanted_some g43 p41 d41 (by simp [size_putT, ha]) (by simp [eval_putT, size_putT, ha, ha0, ha1, ha6, ha9, ha10, ha11, ha12, ha13])) (fun X hX => exec_len8 (A := sa) (L := sn) (c := sd) e43 (by simp [eval_putT, size_putT, ha, ha0, ha1, ha6, ha9, ha10, ha11, ha12, ha13])) s6 ?_
  rw [show (LR 54 [0, 1, 2, 3, 4, 5, 6, 7, 8, 9, 10, 11, 12, 13, 14, 15, 16, 17, 18, 19, 20, 21, 22, 23, 24, 25, 26, 27, 28, 29, 30, 31, 32, 33, 34, 35, 36, 37, 38, 39, 40, 41, 42]).setIfInBounds 43 true = (LR 54 [0, 1, 2, 3, 4, 5, 6, 7, 8, 9, 10, 11, 12, 13, 14, 15, 16, 17, 18, 19, 20, 21, 22, 23, 24, 25, 26, 27, 28, 29, 30, 31, 32, 33, 34, 35, 36, 37, 38, 39, 40, 41, 42, 43]) from by decide]
  rw [d43]
  refine heldS_take (i := 44) (v := .int .i64 (sn : Nat)) p44 hsel f44 c44 (wanted_some g44 p41 d41 (by simp [size_putT, ha]) (by simp [eval_putT, size_putT, ha, ha0, ha1, ha6, ha9, ha10, ha11, ha12, ha13])) (fun X hX => exec_move e44 (by simp [eval_putT, size_putT, ha, ha0, ha1, ha6, ha9, ha10, ha11, ha12, ha13])) s6 ?_
  rw [show (LR 54 [0, 1, 2, 3, 4, 5, 6, 7, 8, 9, 10, 11, 12, 13, 14, 15, 16, 17, 18, 19, 20, 21, 22, 23, 24, 25, 26, 27, 28, 29, 30, 31, 32, 33, 34, 35, 36, 37, 38, 39, 40, 41, 42, 43]).setIfInBounds 44 true = (LR 54 [0, 1, 2, 3, 4, 5, 6, 7, 8, 9, 10, 11, 12, 13, 14, 15, 16, 17, 18, 19, 20, 21, 22, 23, 24, 25, 26, 27, 28, 29, 30, 31, 32, 33, 34, 35, 36, 37, 38, 39, 40, 41, 42, 43, 44]) from by decide]
  rw [d44]
  refine heldS_take (i := 45) (v := .bool true) p45 hsel f45 c45 (wanted_some g45 p41 d41 (by simp [size_putT, ha]) (by simp [eval_putT, size_putT, ha, ha0, ha1, ha6, ha9, ha10, ha11, ha12, ha13])) (fun X hX => exec_eqlnum (n := (sn : Nat)) (m := (sn : Nat)) Tryd.underlying3 e45 (by simp [eval_putT, size_putT, ha, ha0, ha1, ha6, ha9, ha10, ha11, ha12, ha13]) (by simp [eval_putT, size_putT, ha, ha0, ha1, ha6, ha9, ha10, ha11, ha12, ha13]) (by simp)) s6 ?_
  rw [show (LR 54 [0, 1, 2, 3, 4, 5, 6, 7, 8, 9, 10, 11, 12, 13, 14, 15, 16, 17, 18, 19, 20, 21, 22, 23, 24, 25, 26, 27, 28, 29, 30, 31, 32, 33, 34, 35, 36, 37, 38, 39, 40, 41, 42, 43, 44]).setIfInBounds 45 true = (LR 54 [0, 1, 2, 3, 4, 5, 6, 7, 8, 9, 10, 11, 12, 13, 14, 15, 16, 17, 18, 19, 20, 21, 22, 23, 24, 25, 26, 27, 28, 29, 30, 31, 32, 33, 34, 35, 36, 37, 38, 39, 40, 41, 42, 43, 44, 45]) from by decide]
  rw [d45]
  refine heldS_take (i := 46) (v := .bool true) p46 hsel f46 c46 (wanted_none g46) (fun X hX => exec_pick (b := true) (v := .bool true) e46 (by simp [eval_putT, size_putT, ha, ha0, ha1, ha6, ha9, ha10, ha11, ha12, ha13]) (by simp [eval_putT, size_putT, ha, ha0, ha1, ha6, ha9, ha10, ha11, ha12, ha13]) rfl) s6 ?_
  rw [show (LR 54 [0, 1, 2, 3, 4, 5, 6, 7, 8, 9, 10, 11, 12, 13, 14, 15, 16, 17, 18, 19, 20, 21, 22, 23, 24, 25, 26, 27, 28, 29, 30, 31, 32, 33, 34, 35, 36, 37, 38, 39, 40, 41, 42, 43, 44, 45]).setIfInBounds 46 true = (LR 54 [0, 1, 2, 3, 4, 5, 6, 7, 8, 9, 10, 11, 12, 13, 14, 15, 16, 17, 18, 19, 20, 21, 22, 23, 24, 25, 26, 27, 28, 29, 30, 31, 32, 33, 34, 35, 36, 37, 38, 39, 40, 41, 42, 43, 44, 45, 46]) from by decide]
  rw [d46]
  refine heldS_take (i := 47) (v := .bool true) p47 hsel f47 c47 (wanted_none g47) (fun X hX => exec_move e47 (by simp [eval_putT, size_putT, ha, ha0, ha1, ha6, ha9, ha10, ha11, ha12, ha13])) s6 ?_
  rw [show (LR 54 [0, 1, 2, 3, 4, 5, 6, 7, 8, 9, 10, 11, 12, 13, 14, 15, 16, 17, 18, 19, 20, 21, 22, 23, 24, 25, 26, 27, 28, 29, 30, 31, 32, 33, 34, 35, 36, 37, 38, 39, 40, 41, 42, 43, 44, 45, 46]).setIfInBounds 47 true = (LR 54 [0, 1, 2, 3, 4, 5, 6, 7, 8, 9, 10, 11, 12, 13, 14, 15, 16, 17, 18, 19, 20, 21, 22, 23, 24, 25, 26, 27, 28, 29, 30, 31, 32, 33, 34, 35, 36, 37, 38, 39, 40, 41, 42, 43, 44, 45, 46, 47]) from by decide]
  rw [d47]
  refine heldS_take (i := 48) (v := .string (strOfNums xs)) p48 hsel f48 c48 (wanted_some g48 p47 d47 (by simp [size_putT, ha]) (by simp [eval_putT, size_putT, ha, ha0, ha1, ha6, ha9, ha10, ha11, ha12, ha13])) (fun X hX => exec_move e48 (by simp [eval_putT, size_putT, ha, ha0, ha1, ha6, ha9, ha10, ha11, ha12, ha13])) s6 ?_
  rw [show (LR 54 [0, 1, 2, 3, 4, 5, 6, 7, 8, 9, 10, 11, 12, 13, 14, 15, 16, 17, 18, 19, 20, 21, 22, 23, 24, 25, 26, 27, 28, 29, 30, 31, 32, 33, 34, 35, 36, 37, 38, 39, 40, 41, 42, 43, 44, 45, 46, 47]).setIfInBounds 48 true = (LR 54 [0, 1, 2, 3, 4, 5, 6, 7, 8, 9, 10, 11, 12, 13, 14, 15, 16, 17, 18, 19, 20, 21, 22, 23, 24, 25, 26, 27, 28, 29, 30, 31, 32, 33, 34, 35, 36, 37, 38, 39, 40, 41, 42, 43, 44, 45, 46, 47, 48]) from by decide]
  rw [d48]
  refine heldS_take (i := 49) (v := .slice Bb lb cb) p49 hsel f49 c49 (wanted_some g49 p47 d47 (by simp [size_putT, ha]) (by simp [eval_putT, size_putT, ha, ha0, ha1, ha6, ha9, ha10, ha11, ha12, ha13])) (fun X hX => exec_move e49 (by simp [eval_putT, size_putT, ha, ha0, ha1, ha6, ha9, ha10, ha11, ha12, ha13])) s6 ?_
  rw [show (LR 54 [0, 1, 2, 3, 4, 5, 6, 7, 8, 9, 10, 11, 12, 13, 14, 15, 16, 17, 18, 19, 20, 21, 22, 23, 24, 25, 26, 27, 28, 29, 30, 31, 32, 33, 34, 35, 36, 37, 38, 39, 40, 41, 42, 43, 44, 45, 46, 47, 48]).setIfInBounds 49 true = (LR 54 [0, 1, 2, 3, 4, 5, 6, 7, 8, 9, 10, 11, 12, 13, 14, 15, 16, 17, 18, 19, 20, 21, 22, 23, 24, 25, 26, 27, 28, 29, 30, 31, 32, 33, 34, 35, 36, 37, 38, 39, 40, 41, 42, 43, 44, 45, 46, 47, 48, 49]) from by decide]
  rw [d49]
  refine heldS_take (i := 50) (v := .string (strOfNums xs)) p50 hsel f50 c50 (wanted_some g50 p47 d47 (by simp [size_putT, ha]) (by simp [eval_putT, size_putT, ha, ha0, ha1, ha6, ha9, ha10, ha11, ha12, ha13])) (fun X hX => exec_conv e50 (by simp [eval_putT, size_putT, ha, ha0, ha1, ha6, ha9, ha10, ha11, ha12, ha13]) (conv_bys8 hX.2.2.1)) s6 ?_
  rw [show (LR 54 [0, 1, 2, 3, 4, 5, 6, 7, 8, 9, 10, 11, 12, 13, 14, 15, 16, 17, 18, 19, 20, 21, 22, 23, 24, 25, 26, 27, 28, 29, 30, 31, 32, 33, 34, 35, 36, 37, 38, 39, 40, 41, 42, 43, 44, 45, 46, 47, 48, 49]).setIfInBounds 50 true = (LR 54 [0, 1, 2, 3, 4, 5, 6, 7, 8, 9, 10, 11, 12, 13, 14, 15, 16, 17, 18, 19, 20, 21, 22, 23, 24, 25, 26, 27, 28, 29, 30, 31, 32, 33, 34, 35, 36, 37, 38, 39, 40, 41, 42, 43, 44, 45, 46, 47, 48, 49, 50]) from by decide]
  rw [d50]
  refine heldS_take (i := 51) (v := .bool true) p51 hsel f51 c51 (wanted_some g51 p47 d47 (by simp [size_putT, ha]) (by simp [eval_putT, size_putT, ha, ha0, ha1, ha6, ha9, ha10, ha11, ha12, ha13])) (fun X hX => exec_eqstr (s := strOfNums xs) e51 (by simp [eval_putT, size_putT, ha, ha0, ha1, ha6, ha9, ha10, ha11, ha12, ha13]) (by simp [eval_putT, size_putT, ha, ha0, ha1, ha6, ha9, ha10, ha11, ha12, ha13])) s6 ?_
  rw [show (LR 54 [0, 1, 2, 3, 4, 5, 6, 7, 8, 9, 10, 11, 12, 13, 14, 15, 16, 17, 18, 19, 20, 21, 22, 23, 24, 25, 26, 27, 28, 29, 30, 31, 32, 33, 34, 35, 36, 37, 38, 39, 40, 41, 42, 43, 44, 45, 46, 47, 48, 49, 50]).setIfInBounds 51 true = (LR 54 [0, 1, 2, 3, 4, 5, 6, 7, 8, 9, 10, 11, 12, 13, 14, 15, 16, 17, 18, 19, 20, 21, 22, 23, 24, 25, 26, 27, 28, 29, 30, 31, 32, 33, 34, 35, 36, 37, 38, 39, 40, 41, 42, 43, 44, 45, 46, 47, 48, 49, 50, 51]) from by decide]
  rw [d51]
  refine heldS_take (i := 52) (v := .bool true) p52 hsel f52 c52 (wanted_none g52) (fun X hX => exec_pick (b := true) (v := .bool true) e52 (by simp [eval_putT, size_putT, ha, ha0, ha1, ha6, ha9, ha10, ha11, ha12, ha13]) (by simp [eval_putT, size_putT, ha, ha0, ha1, ha6, ha9, ha10, ha11, ha12, ha13]) rfl) s6 ?_
  rw [show (LR 54 [0, 1, 2, 3, 4, 5, 6, 7, 8, 9, 10, 11, 12, 13, 14, 15, 16, 17, 18, 19, 20, 21, 22, 23, 24, 25, 26, 27, 28, 29, 30, 31, 32, 33, 34, 35, 36, 37, 38, 39, 40, 41, 42, 43, 44, 45, 46, 47, 48, 49, 50, 51]).setIfInBounds 52 true = (LR 54 [0, 1, 2, 3, 4, 5, 6, 7, 8, 9, 10, 11, 12, 13, 14, 15, 16, 17, 18, 19, 20, 21, 22, 23, 24, 25, 26, 27, 28, 29, 30, 31, 32, 33, 34, 35, 36, 37, 38, 39, 40, 41, 42, 43, 44, 45, 46, 47, 48, 49, 50, 51, 52]) from by decide]
  rw [d52]
  refine heldS_take (i := 53) (v := .bool true) p53 hsel f53 c53 (wanted_none g53) (fun X hX => exec_assign e53 (by simp [eval_putT, size_putT, ha, ha0, ha1, ha6, ha9, ha10, ha11, ha12, ha13])) s6 ?_
  rw [show (LR 54 [0, 1, 2, 3, 4, 5, 6, 7, 8, 9, 10, 11, 12, 13, 14, 15, 16, 17, 18, 19, 20, 21, 22, 23, 24, 25, 26, 27, 28, 29, 30, 31, 32, 33, 34, 35, 36, 37, 38, 39, 40, 41, 42, 43, 44, 45, 46, 47, 48, 49, 50, 51, 52]).setIfInBounds 53 true = (LR 54 [0, 1, 2, 3, 4, 5, 6, 7, 8, 9, 10, 11, 12, 13, 14, 15, 16, 17, 18, 19, 20, 21, 22, 23, 24, 25, 26, 27, 28, 29, 30, 31, 32, 33, 34, 35, 36, 37, 38, 39, 40, 41, 42, 43, 44, 45, 46, 47, 48, 49, 50, 51, 52, 53]) from by decide]
  rw [d53]
  exact wpAnyH_done rN ⟨rfl, fin X6 b6⟩ _
end Go.Proofs.YtkhhejkemkldgaaDoor
