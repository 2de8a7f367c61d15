import Derived.Test.YtgbkblbfgknheaaGreatDoorM44
import Derived.Test.YtgbkblbfgknheaaGreatDoorM39
namespace Go.Proofs.YtgbkblbfgknheaaGreatDoor
set_option linter.all false
open Go.RowKit Go.Fl
theorem ex_rem {o : Oper} {a : Act} {w : World} {p q r : Int} (x y : Operand) (ho : o.op = .binOp .rem 3 x y 3) (hx : a.eval x = .int .i64 p) (hy : a.eval y = .int .i64 q) (h0 : q ≠ 0) (e : p.tmod q = r) : (execOp a.eval o).run Tryz.prog w = .ok (.value (.int .i64 r)) w := by
 have h1 : (q == 0) = false := by simpa using h0
 subst e
 unfold execOp
 simp only [ho, hx, hy]
 go_simp
theorem use_row {P : Program} {md : Region.Mode} {ops : Array Oper} {Q : Exit → Act → World → Prop} {S : World → Prop} {fuel : Nat} {listed : Array Bool} {a : Act} {W : World} {g : Nat} {t : TypeId} {vs : List Value} (h : Row W g t vs) (k : Row W g t vs → wpAnyH P md ops Q S fuel listed a W) : wpAnyH P md ops Q S fuel listed a W := k h
set_option maxRecDepth 100000 in
set_option maxHeartbeats 16000000 in
theorem wit26 {Q : Exit → Act → World → Prop} {w wc : World} {g19 g21 g23 g25 g26 g28 : Nat} {x0 x1 x2 x4 x5 x6 x9 x10 x11 x12 x13 x14 x15 x16 x17 x18 x25 x30 x31 x32 x33 x34 x35 x36 x37 x38 x39 x40 x41 x42 x43 x44 x45 x46 x47 x48 x49 x50 x51 x52 x53 x54 x55 x56 x57 x58 x59 x60 x61 x62 x63 x64 x65 x66 x67 x68 x69 x70 x71 x72 x73 x74 x75 x76 x77 x78 x79 x80 x81 x82 x83 x84 x85 x86 x87 x88 x89 x90 x91 x92 x93 x94 x95 x96 x97 x98 x99 x100 x101 x102 x103 x104 x105 x106 x107 x108 x109 x110 x111 x112 x113 x114 x115 x116 x117 x118 x119 x120 x121 x122 x123 x124 x125 x126 x127 x128 x129 x130 x131 x132 x133 x134 x135 x136 x137 x138 x139 x140 x141 x142 x143 x144 x145 x146 x147 x148 x149 x150 x151 x152 x153 x154 x155 x156 x157 x158 x159 x160 x161 x162 x163 x164 x165 x166 x167 x168 x169 x170 x171 x172 x173 x174 x175 x176 x177 x178 x179 x180 x181 x182 x183 x184 x185 x186 x187 x188 x189 x190 x191 x192 x193 x194 x195 x196 x197 x198 x199 x200 x201 x202 x203 x204 x205 x206 x207 x208 x209 x210 x211 x212 x213 x214 x215 x216 x217 x218 x219 x220 x221 x222 x223 x224 x225 x226 x227 x228 x229 x230 x231 x232 x233 x234 x235 x236 x237 x238 x239 x240 x241 x242 x243 x244 x245 x246 x247 x248 x249 x250 x251 x252 x253 x254 x255 x256 x257 x258 x259 x260 x261 x262 x263 x264 x265 x266 x267 x268 x269 x270 x271 x272 x273 x274 x275 x276 x277 x278 x279 x280 x281 x282 x283 x284 x285 x286 x287 x288 x289 x290 x291 x292 x293 x294 x295 x296 x297 x298 x299 x300 x301 x302 x303 x304 x305 x306 x307 x308 x309 x310 x311 x312 x313 x314 x315 x316 x317 x318 x319 x320 x321 x322 x323 x324 x325 x326 x327 x328 x329 x330 x331 x332 x333 x334 x335 x336 x337 x338 x339 x340 x341 x342 x343 x344 x345 x346 x347 x348 x349 x350 x351 x352 x353 x354 x355 x356 x357 x358 x359 x360 x361 x362 : Value} {rs rf rl ra rb a b c d x y g8 y16 z16 l0 l1 l2 nz o0 o1 o2 o3 n aL aH bV cV dL dH fL fH : Int} {Af : Option Addr} {FLs : List Int} {FL : ByteArray} {zF : Bool} (ops : Array Oper) (hops : Tryz.f5.body.bind (regOps 26) = some ops) (HK : Hid (KpT w [(g28, 61, (i2 fL fH)), (g26, 61, (i2 dL dH)), (g25, 3, [.int .i64 nz]), (g23, 61, (i2 cV cV)), (g21, 61, (i2 bV bV)), (g19, 61, (i2 aL aH)), ((w.heap.size + 1 + 1), 69, (xh11 g8 y16 z16 l0 l1 l2 nz o0 o1 o2 o3)), ((w.heap.size + 1), 42, (i6 a b c d x y)), (w.heap.size, 63, (r5 rs rf rl ra rb))] [(Af, (ints FLs))] wc)) (hq : Hid (FL.toList.isEmpty = zF)) (hc1 : Hid (aL ≤ aH)) (hc2 : Hid (aL ≤ bV)) (hc3 : Hid (bV ≤ aH)) (hc4 : Hid (fL ≤ dL)) (hc5 : Hid (dL ≤ dH)) (hc6 : Hid (dH ≤ fH)) (hc7 : Hid (zF = true → cV = n ∧ dL ≤ n ∧ n ≤ dH)) (hP : ∀ c a w d v, Q (.panic c) (Act.put a d v) w → Q (.panic c) a w) (hQ : ∀ (y222 y223 y224 y225 y226 y227 y228 y229 y230 y231 y232 y233 y234 y235 y236 y237 y238 y239 y240 y241 y242 y243 y244 y245 y246 y247 y248 y249 y250 y251 y252 y253 y254 y255 y256 y257 y258 y259 y260 y261 y262 y263 y264 y265 y266 y267 y268 y269 y270 y271 y272 y273 y274 y275 y276 y277 y278 y279 y280 y281 y282 y283 y284 y285 y286 y287 y288 y289 y290 y291 y292 y293 y294 y295 y296 y297 y298 y299 y300 y301 y302 y303 y304 y305 y306 y307 y308 y309 y310 y311 y312 y313 y314 y315 y316 : Value) (W' : World), Hid (KpT w [(g28, 61, (i2 fL fH)), (g26, 61, (i2 dL dH)), (g25, 3, [.int .i64 nz]), (g23, 61, (i2 cV cV)), (g21, 61, (i2 bV bV)), (g19, 61, (i2 aL aH)), ((w.heap.size + 1 + 1), 69, (xh11 g8 y16 z16 l0 l1 l2 nz o0 o1 o2 o3)), ((w.heap.size + 1), 42, (i6 a b c d x y)), (w.heap.size, 63, (r5 rs rf rl ra rb))] [(Af, (ints FLs))] W') → Q .normal ⟨([x0, x1, x2, .pointer (some ⟨w.heap.size, 0, none⟩), x4, x5, x6, .int .i64 n, .string FL, x9, x10, x11, x12, x13, x14, x15, x16, x17, x18, .pointer (some ⟨g19, 0, none⟩), .int .i64 0, .pointer (some ⟨g21, 0, none⟩), .int .i64 0, .pointer (some ⟨g23, 0, none⟩), .int .i64 0, x25, .pointer (some ⟨g26, 0, none⟩), .int .i64 0, .pointer (some ⟨g28, 0, none⟩), .int .i64 0, x30, x31, x32, x33, x34, x35, x36, x37, x38, x39, x40, x41, x42, x43, x44, x45, x46, x47, x48, x49, x50, x51, x52, x53, x54, x55, x56, x57, x58, x59, x60, x61, x62, x63, x64, x65, x66, x67, x68, x69, x70, x71, x72, x73, x74, x75, x76, x77, x78, x79, x80, x81, x82, x83, x84, x85, x86, x87, x88, x89, x90, x91, x92, x93, x94, x95, x96, x97, x98, x99, x100, x101, x102, x103, x104, x105, x106, x107, x108, x109, x110, x111, x112, x113, x114, x115, x116, x117, x118, x119, x120, x121, x122, x123, x124, x125, x126, x127, x128, x129, x130, x131, x132, x133, x134, x135, x136, x137, x138, x139, x140, x141, x142, x143, x144, x145, x146, x147, x148, x149, x150, x151, x152, x153, x154, x155, x156, x157, x158, x159, x160, x161, x162, x163, x164, x165, x166, x167, x168, x169, x170, x171, x172, x173, x174, x175, x176, x177, x178, x179, x180, x181, x182, x183, x184, x185, x186, x187, x188, x189, x190, x191, x192, x193, x194, x195, x196, x197, x198, x199, x200, x201, x202, x203, x204, x205, x206, x207, x208, x209, x210, x211, x212, x213, x214, x215, x216, x217, x218, x219, x220, x221, y222, y223, y224, y225, y226, y227, y228, y229, y230, y231, y232, y233, y234, y235, y236, y237, y238, y239, y240, y241, y242, y243, y244, y245, y246, y247, y248, y249, y250, y251, y252, y253, y254, y255, y256, y257, y258, y259, y260, y261, y262, y263, y264, y265, y266, y267, y268, y269, y270, y271, y272, y273, y274, y275, y276, y277, y278, y279, y280, y281, y282, y283, y284, y285, y286, y287, y288, y289, y290, y291, y292, y293, y294, y295, y296, y297, y298, y299, y300, y301, y302, y303, y304, y305, y306, y307, y308, y309, y310, y311, y312, y313, y314, y315, y316, .bool false, x318, x319, x320, x321, x322, x323, x324, x325, x326, x327, x328, x329, x330, x331, x332, x333, x334, x335, x336, x337, x338, x339, x340, x341, x342, x343, x344, x345, x346, x347, x348, x349, x350, x351, x352, x353, x354, x355, x356, x357, x358, x359, x360, x361, x362] : List Value).toArray, []⟩ W') : Code.wp Tryz.prog (Code.region 26 ops false) Q ⟨([x0, x1, x2, .pointer (some ⟨w.heap.size, 0, none⟩), x4, x5, x6, .int .i64 n, .string FL, x9, x10, x11, x12, x13, x14, x15, x16, x17, x18, .pointer (some ⟨g19, 0, none⟩), .int .i64 0, .pointer (some ⟨g21, 0, none⟩), .int .i64 0, .pointer (some ⟨g23, 0, none⟩), .int .i64 0, x25, .pointer (some ⟨g26, 0, none⟩), .int .i64 0, .pointer (some ⟨g28, 0, none⟩), .int .i64 0, x30, x31, x32, x33, x34, x35, x36, x37, x38, x39, x40, x41, x42, x43, x44, x45, x46, x47, x48, x49, x50, x51, x52, x53, x54, x55, x56, x57, x58, x59, x60, x61, x62, x63, x64, x65, x66, x67, x68, x69, x70, x71, x72, x73, x74, x75, x76, x77, x78, x79, x80, x81, x82, x83, x84, x85, x86, x87, x88, x89, x90, x91, x92, x93, x94, x95, x96, x97, x98, x99, x100, x101, x102, x103, x104, x105, x106, x107, x108, x109, x110, x111, x112, x113, x114, x115, x116, x117, x118, x119, x120, x121, x122, x123, x124, x125, x126, x127, x128, x129, x130, x131, x132, x133, x134, x135, x136, x137, x138, x139, x140, x141, x142, x143, x144, x145, x146, x147, x148, x149, x150, x151, x152, x153, x154, x155, x156, x157, x158, x159, x160, x161, x162, x163, x164, x165, x166, x167, x168, x169, x170, x171, x172, x173, x174, x175, x176, x177, x178, x179, x180, x181, x182, x183, x184, x185, x186, x187, x188, x189, x190, x191, x192, x193, x194, x195, x196, x197, x198, x199, x200, x201, x202, x203, x204, x205, x206, x207, x208, x209, x210, x211, x212, x213, x214, x215, x216, x217, x218, x219, x220, x221, x222, x223, x224, x225, x226, x227, x228, x229, x230, x231, x232, x233, x234, x235, x236, x237, x238, x239, x240, x241, x242, x243, x244, x245, x246, x247, x248, x249, x250, x251, x252, x253, x254, x255, x256, x257, x258, x259, x260, x261, x262, x263, x264, x265, x266, x267, x268, x269, x270, x271, x272, x273, x274, x275, x276, x277, x278, x279, x280, x281, x282, x283, x284, x285, x286, x287, x288, x289, x290, x291, x292, x293, x294, x295, x296, x297, x298, x299, x300, x301, x302, x303, x304, x305, x306, x307, x308, x309, x310, x311, x312, x313, x314, x315, x316, x317, x318, x319, x320, x321, x322, x323, x324, x325, x326, x327, x328, x329, x330, x331, x332, x333, x334, x335, x336, x337, x338, x339, x340, x341, x342, x343, x344, x345, x346, x347, x348, x349, x350, x351, x352, x353, x354, x355, x356, x357, x358, x359, x360, x361, x362] : List Value).toArray, []⟩ wc := by
 cases hops
 have c190 := show _ = some (Value.int .i64 aL) from ((HK.out.row g19 61 (i2 aL aH) (.tail _ (.tail _ (.tail _ (.tail _ (.tail _ (.head _))))))).cell 0)
 have c191 := show _ = some (Value.int .i64 aH) from ((HK.out.row g19 61 (i2 aL aH) (.tail _ (.tail _ (.tail _ (.tail _ (.tail _ (.head _))))))).cell 1)
 have c210 := show _ = some (Value.int .i64 bV) from ((HK.out.row g21 61 (i2 bV bV) (.tail _ (.tail _ (.tail _ (.tail _ (.head _)))))).cell 0)
 have c211 := show _ = some (Value.int .i64 bV) from ((HK.out.row g21 61 (i2 bV bV) (.tail _ (.tail _ (.tail _ (.tail _ (.head _)))))).cell 1)
 have c230 := show _ = some (Value.int .i64 cV) from ((HK.out.row g23 61 (i2 cV cV) (.tail _ (.tail _ (.tail _ (.head _))))).cell 0)
 have c231 := show _ = some (Value.int .i64 cV) from ((HK.out.row g23 61 (i2 cV cV) (.tail _ (.tail _ (.tail _ (.head _))))).cell 1)
 have c260 := show _ = some (Value.int .i64 dL) from ((HK.out.row g26 61 (i2 dL dH) (.tail _ (.head _))).cell 0)
 have c261 := show _ = some (Value.int .i64 dH) from ((HK.out.row g26 61 (i2 dL dH) (.tail _ (.head _))).cell 1)
 have c280 := show _ = some (Value.int .i64 fL) from ((HK.out.row g28 61 (i2 fL fH) (.head _)).cell 0)
 have c281 := show _ = some (Value.int .i64 fH) from ((HK.out.row g28 61 (i2 fL fH) (.head _)).cell 1)
 have y1 : ¬ aH < aL := by have := hc1.out; omega
 have y2 : ¬ bV < aL := by have := hc2.out; omega
 have y3 : ¬ aH < bV := by have := hc3.out; omega
 have y4 : ¬ dL < fL := by have := hc4.out; omega
 have y5 : ¬ dH < dL := by have := hc5.out; omega
 have y6 : ¬ fH < dH := by have := hc6.out; omega
 have y7 : (bV != bV) = false := by simp
 have y8 : (cV != cV) = false := by simp
 cases zF
 case false =>
  have q0 := hq.out
  go_wp2_with fail
  all_goals exact hQ _ _ _ _ _ _ _ _ _ _ _ _ _ _ _ _ _ _ _ _ _ _ _ _ _ _ _ _ _ _ _ _ _ _ _ _ _ _ _ _ _ _ _ _ _ _ _ _ _ _ _ _ _ _ _ _ _ _ _ _ _ _ _ _ _ _ _ _ _ _ _ _ _ _ _ _ _ _ _ _ _ _ _ _ _ _ _ _ _ _ _ _ _ _ _ _ HK
 case true =>
  have q0 := hq.out
  obtain ⟨r1, r2, r3⟩ := hc7.out rfl
  have y9 : (cV != n) = false := by simpa using r1
  have y10 : ¬ n < dL := by omega
  have y11 : ¬ dH < n := by omega
  clear r1 r2 r3
  go_wp2_with fail
  all_goals exact hQ _ _ _ _ _ _ _ _ _ _ _ _ _ _ _ _ _ _ _ _ _ _ _ _ _ _ _ _ _ _ _ _ _ _ _ _ _ _ _ _ _ _ _ _ _ _ _ _ _ _ _ _ _ _ _ _ _ _ _ _ _ _ _ _ _ _ _ _ _ _ _ _ _ _ _ _ _ _ _ _ _ _ _ _ _ _ _ _ _ _ _ _ _ _ _ _ HK
set_option maxRecDepth 100000 in
set_option maxHeartbeats 16000000 in
theorem wit29 {Q : Exit → Act → World → Prop} {w wc : World} {g19 g21 g23 g25 g26 g28 : Nat} {x6 x7 x8 x9 x10 x11 x12 x13 x14 x15 x16 x17 x18 x19 x20 x21 x22 x23 x24 x26 x27 x28 x29 x31 x32 x33 x34 x35 x36 x37 x38 x39 x40 x41 x42 x43 x44 x45 x46 x47 x48 x49 x50 x51 x52 x53 x54 x55 x56 x57 x58 x59 x60 x61 x62 x63 x64 x65 x66 x67 x68 x69 x70 x71 x72 x73 x74 x75 x76 x77 x78 x79 x80 x81 x82 x83 x84 x85 x86 x87 x88 x89 x90 x91 x92 x93 x94 x95 x96 x97 x98 x99 x100 x101 x102 x103 x104 x105 x106 x107 x108 x109 x110 x111 x112 x113 x114 x115 x116 x117 x118 x119 x120 x121 x122 x123 x124 x125 x126 x127 x128 x129 x130 x131 x132 x133 x134 x135 x136 x137 x138 x139 x140 x141 x142 x143 x144 x145 x146 x147 x148 x149 x150 x151 x152 x153 x154 x155 x156 x157 x158 x159 x160 x161 x162 x163 x164 x165 x166 x167 x168 x169 x170 x171 x172 x173 x174 x175 x176 x177 x178 x179 x180 x181 x182 x183 x184 x185 x186 x187 x188 x189 x190 x191 x192 x193 x194 x195 x196 x197 x198 x199 x200 x201 x202 x203 x204 x205 x206 x207 x208 x209 x210 x211 x212 x213 x214 x215 x216 x217 x218 x219 x220 x221 x222 x223 x224 x225 x226 x227 x228 x229 x230 x231 x232 x233 x234 x235 x236 x237 x238 x239 x240 x241 x242 x243 x244 x245 x246 x247 x248 x249 x250 x251 x252 x253 x254 x255 x256 x257 x258 x259 x260 x261 x262 x263 x264 x265 x266 x267 x268 x269 x270 x271 x272 x273 x274 x275 x276 x277 x278 x279 x280 x281 x282 x283 x284 x285 x286 x287 x288 x289 x290 x291 x292 x293 x294 x295 x296 x297 x298 x299 x300 x301 x302 x303 x304 x305 x306 x307 x308 x309 x310 x311 x312 x313 x314 x315 x316 x317 x318 x319 x320 x321 x322 x323 x324 x325 x326 x327 x328 x329 x330 x331 x332 x333 x334 x335 x336 x337 x338 x339 x340 x341 x342 x343 x344 x345 x346 x347 x348 x349 x350 x351 x352 x353 x354 x355 x356 x357 x358 x359 x360 x361 x362 : Value} {rs rf rl ra rb a b c d x y g8 y16 z16 l0 l1 l2 nz o0 o1 o2 o3 aL aH bV cV dL dH fL fH p0 p1 p2 p3 u0 u1 u2 u3 : Int} {Af : Option Addr} {FLs : List Int} (ops : Array Oper) (hops : Tryz.f5.body.bind (regOps 29) = some ops) (HK : Hid (KpT w [(g28, 61, (i2 fL fH)), (g26, 61, (i2 dL dH)), (g25, 3, [.int .i64 nz]), (g23, 61, (i2 cV cV)), (g21, 61, (i2 bV bV)), (g19, 61, (i2 aL aH)), ((w.heap.size + 1 + 1), 69, (xh11 g8 y16 z16 l0 l1 l2 nz o0 o1 o2 o3)), ((w.heap.size + 1), 42, (i6 a b c d x y)), (w.heap.size, 63, (r5 rs rf rl ra rb))] [(Af, (ints FLs))] wc)) (hO0 : Hid (∀ g gn W, Row W g 69 [.int .u8 g8, .int .u16 y16, .int .u16 z16, .int .u16 l0, .int .u16 l1, .int .u16 l2, .int .u8 nz, .int .i8 o0, .int .i8 o1, .int .i8 o2, .int .i8 o3] → Row W gn 3 [.int .i64 nz] → Calls Tryz.prog 32 #[.int .i64 0, .pointer (some ⟨g, 0, none⟩), .pointer (some ⟨gn, 0, none⟩)] W fun e w' => e = .returned (.int .i64 p0) ∧ Below W.heap.size W w')) (hO1 : Hid (∀ g gn W, Row W g 69 [.int .u8 g8, .int .u16 y16, .int .u16 z16, .int .u16 l0, .int .u16 l1, .int .u16 l2, .int .u8 nz, .int .i8 o0, .int .i8 o1, .int .i8 o2, .int .i8 o3] → Row W gn 3 [.int .i64 nz] → Calls Tryz.prog 32 #[.int .i64 1, .pointer (some ⟨g, 0, none⟩), .pointer (some ⟨gn, 0, none⟩)] W fun e w' => e = .returned (.int .i64 p1) ∧ Below W.heap.size W w')) (hO2 : Hid (∀ g gn W, Row W g 69 [.int .u8 g8, .int .u16 y16, .int .u16 z16, .int .u16 l0, .int .u16 l1, .int .u16 l2, .int .u8 nz, .int .i8 o0, .int .i8 o1, .int .i8 o2, .int .i8 o3] → Row W gn 3 [.int .i64 nz] → Calls Tryz.prog 32 #[.int .i64 2, .pointer (some ⟨g, 0, none⟩), .pointer (some ⟨gn, 0, none⟩)] W fun e w' => e = .returned (.int .i64 p2) ∧ Below W.heap.size W w')) (hO3 : Hid (∀ g gn W, Row W g 69 [.int .u8 g8, .int .u16 y16, .int .u16 z16, .int .u16 l0, .int .u16 l1, .int .u16 l2, .int .u8 nz, .int .i8 o0, .int .i8 o1, .int .i8 o2, .int .i8 o3] → Row W gn 3 [.int .i64 nz] → Calls Tryz.prog 32 #[.int .i64 3, .pointer (some ⟨g, 0, none⟩), .pointer (some ⟨gn, 0, none⟩)] W fun e w' => e = .returned (.int .i64 p3) ∧ Below W.heap.size W w')) (hP1 : Hid (∀ W, Calls Tryz.prog 21 #[.agg #[.int .i64 c, .int .i64 d], .agg #[.int .i64 p0, .int .i64 p1]] W fun e w' => e = .returned (.agg #[.int .i64 u0, .int .i64 u1]) ∧ Below W.heap.size W w')) (hP2 : Hid (∀ W, Calls Tryz.prog 21 #[.agg #[.int .i64 x, .int .i64 y], .agg #[.int .i64 p2, .int .i64 p3]] W fun e w' => e = .returned (.agg #[.int .i64 u2, .int .i64 u3]) ∧ Below W.heap.size W w')) (hP : ∀ c a w d v, Q (.panic c) (Act.put a d v) w → Q (.panic c) a w) (hQ : ∀ (y319 y320 y321 y322 y323 y324 y325 y326 y327 y328 y329 y330 y331 y332 y333 y334 y335 y336 y337 : Value) (g31 : Nat) (W' : World), Hid (KpT w [(g31, 42, (i6 a b u0 u1 u2 u3)), (g28, 61, (i2 fL fH)), (g26, 61, (i2 dL dH)), (g25, 3, [.int .i64 nz]), (g23, 61, (i2 cV cV)), (g21, 61, (i2 bV bV)), (g19, 61, (i2 aL aH)), ((w.heap.size + 1 + 1), 69, (xh11 g8 y16 z16 l0 l1 l2 nz o0 o1 o2 o3)), ((w.heap.size + 1), 42, (i6 a b c d x y)), (w.heap.size, 63, (r5 rs rf rl ra rb))] [(Af, (ints FLs))] W') → Q .normal ⟨([.agg #[.int .i64 rs, .int .i64 rf, .int .i64 rl, .int .i64 ra, .int .i64 rb], .agg #[.int .i64 a, .int .i64 b, .int .i64 c, .int .i64 d, .int .i64 x, .int .i64 y], .agg #[.int .u8 g8, .int .u16 y16, .int .u16 z16, .int .u16 l0, .int .u16 l1, .int .u16 l2, .int .u8 nz, .int .i8 o0, .int .i8 o1, .int .i8 o2, .int .i8 o3], .pointer (some ⟨w.heap.size, 0, none⟩), .pointer (some ⟨(w.heap.size + 1), 0, none⟩), .pointer (some ⟨(w.heap.size + 1 + 1), 0, none⟩), x6, x7, x8, x9, x10, x11, x12, x13, x14, x15, x16, x17, x18, x19, x20, x21, x22, x23, x24, .pointer (some ⟨g25, 0, none⟩), x26, x27, x28, x29, (Value.func (.func 32) #[] #[.pointer (some ⟨(w.heap.size + 1 + 1), 0, none⟩), .pointer (some ⟨g25, 0, none⟩)]), .pointer (some ⟨g31, 0, none⟩), x32, x33, x34, x35, x36, x37, x38, x39, x40, x41, x42, x43, x44, x45, x46, x47, x48, x49, x50, x51, x52, x53, x54, x55, x56, x57, x58, x59, x60, x61, x62, x63, x64, x65, x66, x67, x68, x69, x70, x71, x72, x73, x74, x75, x76, x77, x78, x79, x80, x81, x82, x83, x84, x85, x86, x87, x88, x89, x90, x91, x92, x93, x94, x95, x96, x97, x98, x99, x100, x101, x102, x103, x104, x105, x106, x107, x108, x109, x110, x111, x112, x113, x114, x115, x116, x117, x118, x119, x120, x121, x122, x123, x124, x125, x126, x127, x128, x129, x130, x131, x132, x133, x134, x135, x136, x137, x138, x139, x140, x141, x142, x143, x144, x145, x146, x147, x148, x149, x150, x151, x152, x153, x154, x155, x156, x157, x158, x159, x160, x161, x162, x163, x164, x165, x166, x167, x168, x169, x170, x171, x172, x173, x174, x175, x176, x177, x178, x179, x180, x181, x182, x183, x184, x185, x186, x187, x188, x189, x190, x191, x192, x193, x194, x195, x196, x197, x198, x199, x200, x201, x202, x203, x204, x205, x206, x207, x208, x209, x210, x211, x212, x213, x214, x215, x216, x217, x218, x219, x220, x221, x222, x223, x224, x225, x226, x227, x228, x229, x230, x231, x232, x233, x234, x235, x236, x237, x238, x239, x240, x241, x242, x243, x244, x245, x246, x247, x248, x249, x250, x251, x252, x253, x254, x255, x256, x257, x258, x259, x260, x261, x262, x263, x264, x265, x266, x267, x268, x269, x270, x271, x272, x273, x274, x275, x276, x277, x278, x279, x280, x281, x282, x283, x284, x285, x286, x287, x288, x289, x290, x291, x292, x293, x294, x295, x296, x297, x298, x299, x300, x301, x302, x303, x304, x305, x306, x307, x308, x309, x310, x311, x312, x313, x314, x315, x316, x317, x318, y319, y320, y321, y322, y323, y324, y325, y326, y327, y328, y329, y330, y331, y332, y333, y334, y335, y336, y337, x338, x339, x340, x341, x342, x343, x344, x345, x346, x347, x348, x349, x350, x351, x352, x353, x354, x355, x356, x357, x358, x359, x360, x361, x362] : List Value).toArray, []⟩ W') : Code.wp Tryz.prog (Code.region 29 ops true) Q ⟨([.agg #[.int .i64 rs, .int .i64 rf, .int .i64 rl, .int .i64 ra, .int .i64 rb], .agg #[.int .i64 a, .int .i64 b, .int .i64 c, .int .i64 d, .int .i64 x, .int .i64 y], .agg #[.int .u8 g8, .int .u16 y16, .int .u16 z16, .int .u16 l0, .int .u16 l1, .int .u16 l2, .int .u8 nz, .int .i8 o0, .int .i8 o1, .int .i8 o2, .int .i8 o3], .pointer (some ⟨w.heap.size, 0, none⟩), .pointer (some ⟨(w.heap.size + 1), 0, none⟩), .pointer (some ⟨(w.heap.size + 1 + 1), 0, none⟩), x6, x7, x8, x9, x10, x11, x12, x13, x14, x15, x16, x17, x18, x19, x20, x21, x22, x23, x24, .pointer (some ⟨g25, 0, none⟩), x26, x27, x28, x29, (Value.func (.func 32) #[] #[.pointer (some ⟨(w.heap.size + 1 + 1), 0, none⟩), .pointer (some ⟨g25, 0, none⟩)]), x31, x32, x33, x34, x35, x36, x37, x38, x39, x40, x41, x42, x43, x44, x45, x46, x47, x48, x49, x50, x51, x52, x53, x54, x55, x56, x57, x58, x59, x60, x61, x62, x63, x64, x65, x66, x67, x68, x69, x70, x71, x72, x73, x74, x75, x76, x77, x78, x79, x80, x81, x82, x83, x84, x85, x86, x87, x88, x89, x90, x91, x92, x93, x94, x95, x96, x97, x98, x99, x100, x101, x102, x103, x104, x105, x106, x107, x108, x109, x110, x111, x112, x113, x114, x115, x116, x117, x118, x119, x120, x121, x122, x123, x124, x125, x126, x127, x128, x129, x130, x131, x132, x133, x134, x135, x136, x137, x138, x139, x140, x141, x142, x143, x144, x145, x146, x147, x148, x149, x150, x151, x152, x153, x154, x155, x156, x157, x158, x159, x160, x161, x162, x163, x164, x165, x166, x167, x168, x169, x170, x171, x172, x173, x174, x175, x176, x177, x178, x179, x180, x181, x182, x183, x184, x185, x186, x187, x188, x189, x190, x191, x192, x193, x194, x195, x196, x197, x198, x199, x200, x201, x202, x203, x204, x205, x206, x207, x208, x209, x210, x211, x212, x213, x214, x215, x216, x217, x218, x219, x220, x221, x222, x223, x224, x225, x226, x227, x228, x229, x230, x231, x232, x233, x234, x235, x236, x237, x238, x239, x240, x241, x242, x243, x244, x245, x246, x247, x248, x249, x250, x251, x252, x253, x254, x255, x256, x257, x258, x259, x260, x261, x262, x263, x264, x265, x266, x267, x268, x269, x270, x271, x272, x273, x274, x275, x276, x277, x278, x279, x280, x281, x282, x283, x284, x285, x286, x287, x288, x289, x290, x291, x292, x293, x294, x295, x296, x297, x298, x299, x300, x301, x302, x303, x304, x305, x306, x307, x308, x309, x310, x311, x312, x313, x314, x315, x316, x317, x318, x319, x320, x321, x322, x323, x324, x325, x326, x327, x328, x329, x330, x331, x332, x333, x334, x335, x336, x337, x338, x339, x340, x341, x342, x343, x344, x345, x346, x347, x348, x349, x350, x351, x352, x353, x354, x355, x356, x357, x358, x359, x360, x361, x362] : List Value).toArray, []⟩ wc := by
 cases hops
 refine wp_region_held_drew (S := fun V => Below wc.heap.size wc V) (by kernel_rfl) ?_ (fun hHeld => ?_)
 · exact (Below.refl _ _).drew
 refine wpAnyH_take (i := 0) (oi := ⟨some 319, _, _, _, _, _⟩) (v := ?_) rfl (by kernel_rfl) (by kernel_rfl) (by kernel_rfl) (fun c a w h => hP c a w _ _ h) (Or.inl ⟨by kernel_rfl, ?_⟩) hHeld ?_
 rotate_left
 · intro w1 hSw; (try dsimp only at hSw); go_simp <;> with_reducible rfl
 try simp only [zz]
 refine wpAnyH_take (i := 1) (oi := ⟨some 320, _, _, _, _, _⟩) (v := .agg #[.int .i64 a, .int .i64 b]) rfl (by kernel_rfl) (by kernel_rfl) (by kernel_rfl) (fun c a w h => hP c a w _ _ h) (Or.inl ⟨by kernel_rfl, fun V hV => ex_Gauss _ rfl ((w.heap.size + 1)) 0 rfl (((HK.out.old hV).row (w.heap.size + 1) 42 (i6 a b c d x y) (.tail _ (.tail _ (.tail _ (.tail _ (.tail _ (.tail _ (.tail _ (.head _))))))))).cell 0) (((HK.out.old hV).row (w.heap.size + 1) 42 (i6 a b c d x y) (.tail _ (.tail _ (.tail _ (.tail _ (.tail _ (.tail _ (.tail _ (.head _))))))))).cell 1)⟩) hHeld ?_
 try simp only [zz]
 refine wpAnyH_take (i := 2) (oi := ⟨some 321, _, _, _, _, _⟩) (v := ?_) rfl (by kernel_rfl) (by kernel_rfl) (by kernel_rfl) (fun c a w h => hP c a w _ _ h) (Or.inl ⟨by kernel_rfl, ?_⟩) hHeld ?_
 rotate_left
 · intro w1 hSw; (try dsimp only at hSw); go_simp <;> with_reducible rfl
 try simp only [zz]
 refine wpAnyH_take (i := 3) (oi := ⟨some 322, _, _, _, _, _⟩) (v := .agg #[.int .i64 c, .int .i64 d]) rfl (by kernel_rfl) (by kernel_rfl) (by kernel_rfl) (fun c a w h => hP c a w _ _ h) (Or.inl ⟨by kernel_rfl, fun V hV => ex_Gauss _ rfl ((w.heap.size + 1)) 2 rfl (((HK.out.old hV).row (w.heap.size + 1) 42 (i6 a b c d x y) (.tail _ (.tail _ (.tail _ (.tail _ (.tail _ (.tail _ (.tail _ (.head _))))))))).cell 2) (((HK.out.old hV).row (w.heap.size + 1) 42 (i6 a b c d x y) (.tail _ (.tail _ (.tail _ (.tail _ (.tail _ (.tail _ (.tail _ (.head _))))))))).cell 3)⟩) hHeld ?_
 try simp only [zz]
 refine wpAnyH_take (i := 4) (oi := ⟨some 323, _, _, _, _, _⟩) (v := ?_) rfl (by kernel_rfl) (by kernel_rfl) (by kernel_rfl) (fun c a w h => hP c a w _ _ h) (Or.inl ⟨by kernel_rfl, ?_⟩) hHeld ?_
 rotate_left
 · intro w1 hSw; (try dsimp only at hSw); go_simp <;> with_reducible rfl
 try simp only [zz]
 refine wpAnyH_take (i := 6) (oi := ⟨some 325, _, _, _, _, _⟩) (v := ?_) rfl (by kernel_rfl) (by kernel_rfl) (by kernel_rfl) (fun c a w h => hP c a w _ _ h) (Or.inl ⟨by kernel_rfl, ?_⟩) hHeld ?_
 rotate_left
 · intro w1 hSw; (try dsimp only at hSw); go_simp <;> with_reducible rfl
 try simp only [zz]
 refine wpAnyH_take (i := 10) (oi := ⟨some 329, _, _, _, _, _⟩) (v := ?_) rfl (by kernel_rfl) (by kernel_rfl) (by kernel_rfl) (fun c a w h => hP c a w _ _ h) (Or.inl ⟨by kernel_rfl, ?_⟩) hHeld ?_
 rotate_left
 · intro w1 hSw; (try dsimp only at hSw); go_simp <;> with_reducible rfl
 try simp only [zz]
 refine wpAnyH_take (i := 11) (oi := ⟨some 330, _, _, _, _, _⟩) (v := .agg #[.int .i64 x, .int .i64 y]) rfl (by kernel_rfl) (by kernel_rfl) (by kernel_rfl) (fun c a w h => hP c a w _ _ h) (Or.inl ⟨by kernel_rfl, fun V hV => ex_Gauss _ rfl ((w.heap.size + 1)) 4 rfl (((HK.out.old hV).row (w.heap.size + 1) 42 (i6 a b c d x y) (.tail _ (.tail _ (.tail _ (.tail _ (.tail _ (.tail _ (.tail _ (.head _))))))))).cell 4) (((HK.out.old hV).row (w.heap.size + 1) 42 (i6 a b c d x y) (.tail _ (.tail _ (.tail _ (.tail _ (.tail _ (.tail _ (.tail _ (.head _))))))))).cell 5)⟩) hHeld ?_
 try simp only [zz]
 refine wpAnyH_take (i := 12) (oi := ⟨some 331, _, _, _, _, _⟩) (v := ?_) rfl (by kernel_rfl) (by kernel_rfl) (by kernel_rfl) (fun c a w h => hP c a w _ _ h) (Or.inl ⟨by kernel_rfl, ?_⟩) hHeld ?_
 rotate_left
 · intro w1 hSw; (try dsimp only at hSw); go_simp <;> with_reducible rfl
 try simp only [zz]
 refine wpAnyH_take (i := 14) (oi := ⟨some 333, _, _, _, _, _⟩) (v := ?_) rfl (by kernel_rfl) (by kernel_rfl) (by kernel_rfl) (fun c a w h => hP c a w _ _ h) (Or.inl ⟨by kernel_rfl, ?_⟩) hHeld ?_
 rotate_left
 · intro w1 hSw; (try dsimp only at hSw); go_simp <;> with_reducible rfl
 try simp only [zz]
 refine wpAnyH_ready (rs := [5, 19]) (by kernel_rfl) (by simp) ?_
 refine AllReadyH.cons rfl (fun K hK => ?_) (AllReadyH.cons rfl (fun K hK => ?_) AllReadyH.nil)
 rotate_left
 have hge := hHeld.size
 go_simp
 refine hK.out _ _ ?_ (fun hHeld => ?_)
 · exact hHeld.alloc hHeld.size _
 clear hK K
 try simp only [zz]
 first | refine use_row (Row.new _ 42 [.int .i64 0, .int .i64 0, .int .i64 0, .int .i64 0, .int .i64 0, .int .i64 0]) (fun hr => ?_) | refine use_row (Row.new _ 42 [.int .i64 0, .int .i64 0, .int .i64 0, .int .i64 0, .int .i64 0, .int .i64 0]).drew (fun hr => ?_)
 all_goals (try (refine wpAnyH_ready (rs := [5]) (by kernel_rfl) (by simp) ?_; refine AllReadyH.cons rfl (fun K hK => ?_) AllReadyH.nil))
 all_goals
  go_simp
  go_at_call 32
  refine (hO0.out _ _ _ ((HK.out.old hHeld).row (w.heap.size + 1 + 1) 69 (xh11 g8 y16 z16 l0 l1 l2 nz o0 o1 o2 o3) (.tail _ (.tail _ (.tail _ (.tail _ (.tail _ (.tail _ (.head _)))))))) ((HK.out.old hHeld).row g25 3 [.int .i64 nz] (.tail _ (.tail _ (.head _))))).mono ?_
  rintro e v1 ⟨rfl, hb⟩
  try replace hr := hr.old hb
  have hz := hb.size
  try simp only [World.size_alloc, size_drewT] at hz
  try go_simp
  refine hK.out _ _ ?_ (fun hHeld => ?_)
  · exact hHeld.trans (hb.mono hHeld.size)
  clear hK K
  try simp only [zz]
 rotate_right
 refine wpAnyH_ready (rs := [7, 19]) (by kernel_rfl) (by simp) ?_
 refine AllReadyH.cons rfl (fun K hK => ?_) (AllReadyH.cons rfl (fun K hK => ?_) AllReadyH.nil)
 rotate_left
 have hge := hHeld.size
 go_simp
 refine hK.out _ _ ?_ (fun hHeld => ?_)
 · exact hHeld.alloc hHeld.size _
 clear hK K
 try simp only [zz]
 first | refine use_row (Row.new _ 42 [.int .i64 0, .int .i64 0, .int .i64 0, .int .i64 0, .int .i64 0, .int .i64 0]) (fun hr => ?_) | refine use_row (Row.new _ 42 [.int .i64 0, .int .i64 0, .int .i64 0, .int .i64 0, .int .i64 0, .int .i64 0]).drew (fun hr => ?_)
 all_goals (try (refine wpAnyH_ready (rs := [7]) (by kernel_rfl) (by simp) ?_; refine AllReadyH.cons rfl (fun K hK => ?_) AllReadyH.nil))
 all_goals
  go_simp
  go_at_call 32
  refine (hO1.out _ _ _ ((HK.out.old hHeld).row (w.heap.size + 1 + 1) 69 (xh11 g8 y16 z16 l0 l1 l2 nz o0 o1 o2 o3) (.tail _ (.tail _ (.tail _ (.tail _ (.tail _ (.tail _ (.head _)))))))) ((HK.out.old hHeld).row g25 3 [.int .i64 nz] (.tail _ (.tail _ (.head _))))).mono ?_
  rintro e v1 ⟨rfl, hb⟩
  try replace hr := hr.old hb
  have hz := hb.size
  try simp only [World.size_alloc, size_drewT] at hz
  try go_simp
  refine hK.out _ _ ?_ (fun hHeld => ?_)
  · exact hHeld.trans (hb.mono hHeld.size)
  clear hK K
  try simp only [zz]
 rotate_right
 refine wpAnyH_ready (rs := [8, 19]) (by kernel_rfl) (by simp) ?_
 refine AllReadyH.cons rfl (fun K hK => ?_) (AllReadyH.cons rfl (fun K hK => ?_) AllReadyH.nil)
 rotate_left
 have hge := hHeld.size
 go_simp
 refine hK.out _ _ ?_ (fun hHeld => ?_)
 · exact hHeld.alloc hHeld.size _
 clear hK K
 try simp only [zz]
 first | refine use_row (Row.new _ 42 [.int .i64 0, .int .i64 0, .int .i64 0, .int .i64 0, .int .i64 0, .int .i64 0]) (fun hr => ?_) | refine use_row (Row.new _ 42 [.int .i64 0, .int .i64 0, .int .i64 0, .int .i64 0, .int .i64 0, .int .i64 0]).drew (fun hr => ?_)
 all_goals (try (refine wpAnyH_ready (rs := [8]) (by kernel_rfl) (by simp) ?_; refine AllReadyH.cons rfl (fun K hK => ?_) AllReadyH.nil))
 all_goals
  go_simp
  go_at_call 18
  refine (at2_any _ _ _).mono ?_
  rintro e v1 ⟨rfl, hb⟩
  try replace hr := hr.old hb
  have hz := hb.size
  try simp only [World.size_alloc, size_drewT] at hz
  try go_simp
  refine hK.out _ _ ?_ (fun hHeld => ?_)
  · exact hHeld.trans (hb.mono hHeld.size)
  clear hK K
  try simp only [zz]
 rotate_right
 refine wpAnyH_ready (rs := [9, 19]) (by kernel_rfl) (by simp) ?_
 refine AllReadyH.cons rfl (fun K hK => ?_) (AllReadyH.cons rfl (fun K hK => ?_) AllReadyH.nil)
 rotate_left
 have hge := hHeld.size
 go_simp
 refine hK.out _ _ ?_ (fun hHeld => ?_)
 · exact hHeld.alloc hHeld.size _
 clear hK K
 try simp only [zz]
 first | refine use_row (Row.new _ 42 [.int .i64 0, .int .i64 0, .int .i64 0, .int .i64 0, .int .i64 0, .int .i64 0]) (fun hr => ?_) | refine use_row (Row.new _ 42 [.int .i64 0, .int .i64 0, .int .i64 0, .int .i64 0, .int .i64 0, .int .i64 0]).drew (fun hr => ?_)
 all_goals (try (refine wpAnyH_ready (rs := [9]) (by kernel_rfl) (by simp) ?_; refine AllReadyH.cons rfl (fun K hK => ?_) AllReadyH.nil))
 all_goals
  go_simp
  go_at_call 21
  refine (hP1.out _).mono ?_
  rintro e v1 ⟨rfl, hb⟩
  try replace hr := hr.old hb
  have hz := hb.size
  try simp only [World.size_alloc, size_drewT] at hz
  try go_simp
  refine hK.out _ _ ?_ (fun hHeld => ?_)
  · exact hHeld.trans (hb.mono hHeld.size)
  clear hK K
  try simp only [zz]
 rotate_right
 refine wpAnyH_ready (rs := [13, 19]) (by kernel_rfl) (by simp) ?_
 refine AllReadyH.cons rfl (fun K hK => ?_) (AllReadyH.cons rfl (fun K hK => ?_) AllReadyH.nil)
 rotate_left
 have hge := hHeld.size
 go_simp
 refine hK.out _ _ ?_ (fun hHeld => ?_)
 · exact hHeld.alloc hHeld.size _
 clear hK K
 try simp only [zz]
 first | refine use_row (Row.new _ 42 [.int .i64 0, .int .i64 0, .int .i64 0, .int .i64 0, .int .i64 0, .int .i64 0]) (fun hr => ?_) | refine use_row (Row.new _ 42 [.int .i64 0, .int .i64 0, .int .i64 0, .int .i64 0, .int .i64 0, .int .i64 0]).drew (fun hr => ?_)
 all_goals (try (refine wpAnyH_ready (rs := [13]) (by kernel_rfl) (by simp) ?_; refine AllReadyH.cons rfl (fun K hK => ?_) AllReadyH.nil))
 all_goals
  go_simp
  go_at_call 32
  refine (hO2.out _ _ _ ((HK.out.old hHeld).row (w.heap.size + 1 + 1) 69 (xh11 g8 y16 z16 l0 l1 l2 nz o0 o1 o2 o3) (.tail _ (.tail _ (.tail _ (.tail _ (.tail _ (.tail _ (.head _)))))))) ((HK.out.old hHeld).row g25 3 [.int .i64 nz] (.tail _ (.tail _ (.head _))))).mono ?_
  rintro e v1 ⟨rfl, hb⟩
  try replace hr := hr.old hb
  have hz := hb.size
  try simp only [World.size_alloc, size_drewT] at hz
  try go_simp
  refine hK.out _ _ ?_ (fun hHeld => ?_)
  · exact hHeld.trans (hb.mono hHeld.size)
  clear hK K
  try simp only [zz]
 rotate_right
 refine wpAnyH_ready (rs := [15, 19]) (by kernel_rfl) (by simp) ?_
 refine AllReadyH.cons rfl (fun K hK => ?_) (AllReadyH.cons rfl (fun K hK => ?_) AllReadyH.nil)
 rotate_left
 have hge := hHeld.size
 go_simp
 refine hK.out _ _ ?_ (fun hHeld => ?_)
 · exact hHeld.alloc hHeld.size _
 clear hK K
 try simp only [zz]
 first | refine use_row (Row.new _ 42 [.int .i64 0, .int .i64 0, .int .i64 0, .int .i64 0, .int .i64 0, .int .i64 0]) (fun hr => ?_) | refine use_row (Row.new _ 42 [.int .i64 0, .int .i64 0, .int .i64 0, .int .i64 0, .int .i64 0, .int .i64 0]).drew (fun hr => ?_)
 all_goals (try (refine wpAnyH_ready (rs := [15]) (by kernel_rfl) (by simp) ?_; refine AllReadyH.cons rfl (fun K hK => ?_) AllReadyH.nil))
 all_goals
  go_simp
  go_at_call 32
  refine (hO3.out _ _ _ ((HK.out.old hHeld).row (w.heap.size + 1 + 1) 69 (xh11 g8 y16 z16 l0 l1 l2 nz o0 o1 o2 o3) (.tail _ (.tail _ (.tail _ (.tail _ (.tail _ (.tail _ (.head _)))))))) ((HK.out.old hHeld).row g25 3 [.int .i64 nz] (.tail _ (.tail _ (.head _))))).mono ?_
  rintro e v1 ⟨rfl, hb⟩
  try replace hr := hr.old hb
  have hz := hb.size
  try simp only [World.size_alloc, size_drewT] at hz
  try go_simp
  refine hK.out _ _ ?_ (fun hHeld => ?_)
  · exact hHeld.trans (hb.mono hHeld.size)
  clear hK K
  try simp only [zz]
 rotate_right
 refine wpAnyH_ready (rs := [16, 19]) (by kernel_rfl) (by simp) ?_
 refine AllReadyH.cons rfl (fun K hK => ?_) (AllReadyH.cons rfl (fun K hK => ?_) AllReadyH.nil)
 rotate_left
 have hge := hHeld.size
 go_simp
 refine hK.out _ _ ?_ (fun hHeld => ?_)
 · exact hHeld.alloc hHeld.size _
 clear hK K
 try simp only [zz]
 first | refine use_row (Row.new _ 42 [.int .i64 0, .int .i64 0, .int .i64 0, .int .i64 0, .int .i64 0, .int .i64 0]) (fun hr => ?_) | refine use_row (Row.new _ 42 [.int .i64 0, .int .i64 0, .int .i64 0, .int .i64 0, .int .i64 0, .int .i64 0]).drew (fun hr => ?_)
 all_goals (try (refine wpAnyH_ready (rs := [16]) (by kernel_rfl) (by simp) ?_; refine AllReadyH.cons rfl (fun K hK => ?_) AllReadyH.nil))
 all_goals
  go_simp
  go_at_call 18
  refine (at2_any _ _ _).mono ?_
  rintro e v1 ⟨rfl, hb⟩
  try replace hr := hr.old hb
  have hz := hb.size
  try simp only [World.size_alloc, size_drewT] at hz
  try go_simp
  refine hK.out _ _ ?_ (fun hHeld => ?_)
  · exact hHeld.trans (hb.mono hHeld.size)
  clear hK K
  try simp only [zz]
 rotate_right
 refine wpAnyH_ready (rs := [17, 19]) (by kernel_rfl) (by simp) ?_
 refine AllReadyH.cons rfl (fun K hK => ?_) (AllReadyH.cons rfl (fun K hK => ?_) AllReadyH.nil)
 rotate_left
 have hge := hHeld.size
 go_simp
 refine hK.out _ _ ?_ (fun hHeld => ?_)
 · exact hHeld.alloc hHeld.size _
 clear hK K
 try simp only [zz]
 first | refine use_row (Row.new _ 42 [.int .i64 0, .int .i64 0, .int .i64 0, .int .i64 0, .int .i64 0, .int .i64 0]) (fun hr => ?_) | refine use_row (Row.new _ 42 [.int .i64 0, .int .i64 0, .int .i64 0, .int .i64 0, .int .i64 0, .int .i64 0]).drew (fun hr => ?_)
 all_goals (try (refine wpAnyH_ready (rs := [17]) (by kernel_rfl) (by simp) ?_; refine AllReadyH.cons rfl (fun K hK => ?_) AllReadyH.nil))
 all_goals
  go_simp
  go_at_call 21
  refine (hP2.out _).mono ?_
  rintro e v1 ⟨rfl, hb⟩
  try replace hr := hr.old hb
  have hz := hb.size
  try simp only [World.size_alloc, size_drewT] at hz
  try go_simp
  refine hK.out _ _ ?_ (fun hHeld => ?_)
  · exact hHeld.trans (hb.mono hHeld.size)
  clear hK K
  try simp only [zz]
  refine wpAnyH_take (i := 18) (oi := ⟨some 337, _, _, _, _, _⟩) (v := ?_) rfl (by kernel_rfl) (by kernel_rfl) (by kernel_rfl) (fun c a w h => hP c a w _ _ h) (Or.inl ⟨by kernel_rfl, ?_⟩) hHeld ?_
  rotate_left
  · intro w1 hSw; (try dsimp only at hSw); go_simp <;> with_reducible rfl
  try simp only [zz]
 rotate_right
 refine st1 19 (by kernel_rfl) rfl (fun K hK => ?_)
 have hge := hHeld.size
 go_simp
 refine hK.out _ _ ?_ (fun hHeld => ?_)
 · exact hHeld.alloc hHeld.size _
 clear hK K
 try simp only [zz]
 first | refine use_row (Row.new _ 42 [.int .i64 0, .int .i64 0, .int .i64 0, .int .i64 0, .int .i64 0, .int .i64 0]) (fun hr => ?_) | refine use_row (Row.new _ 42 [.int .i64 0, .int .i64 0, .int .i64 0, .int .i64 0, .int .i64 0, .int .i64 0]).drew (fun hr => ?_)
 all_goals
  refine st1 20 (by kernel_rfl) rfl (fun K hK => ?_)
  refine step_store_row rfl 42 _ _ rfl _ [.int .i64 a, .int .i64 b, .int .i64 u0, .int .i64 u1, .int .i64 u2, .int .i64 u3] rfl rfl 42 [.int .i64 0, .int .i64 0, .int .i64 0, .int .i64 0, .int .i64 0, .int .i64 0] hr (by kernel_rfl) rfl (by simp [Value.oneCell']) ?_
  refine hK.out _ _ ?_ (fun hHeld => ?_)
  · exact Below.setRow hHeld hge _
  clear hK K
  try simp only [zz]
  refine wpAnyH_done (by kernel_rfl) ?_ _
  exact hQ _ _ _ _ _ _ _ _ _ _ _ _ _ _ _ _ _ _ _ _ _ (Lib.hid (KpT.cons (HK.out.old hHeld) (hr.setRow _)))
end Go.Proofs.YtgbkblbfgknheaaGreatDoor
