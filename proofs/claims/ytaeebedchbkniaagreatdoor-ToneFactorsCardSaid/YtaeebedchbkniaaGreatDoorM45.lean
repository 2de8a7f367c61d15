import Derived.Test.YtaeebedchbkniaaGreatDoorM44
namespace Go.Proofs.YtaeebedchbkniaaGreatDoor
set_option linter.all false
open Go.RowKit Go.Fl
theorem ex_cellI8 {o : Oper} {a : Act} {w : World} {v : Value} (x : Operand) (ho : o.op = .load 74 x) (g off : Nat) (hx : a.eval x = .pointer (some ⟨g, off, none⟩)) (c0 : w.cell? ⟨g, off, none⟩ = some v) : (execOp a.eval o).run Tryz.prog w = .ok (.value v) w := by
 unfold execOp
 simp only [ho, hx]
 go_simp
theorem KpT.drop {w0 V : World} {r : Nat × TypeId × List Value} {rows : List (Nat × TypeId × List Value)} {rds : List (Option Addr × List Value)} (h : KpT w0 (r :: rows) rds V) : KpT w0 rows rds V := ⟨h.1, fun s hs => h.2.1 s (List.mem_cons_of_mem _ hs), h.2.2⟩
abbrev i2 (a b : Int) : List Value := [.int .i64 a, .int .i64 b]
abbrev i4 (a b c d : Int) : List Value := [.int .i64 a, .int .i64 b, .int .i64 c, .int .i64 d]
abbrev i6 (a b c d x y : Int) : List Value := [.int .i64 a, .int .i64 b, .int .i64 c, .int .i64 d, .int .i64 x, .int .i64 y]
theorem mm0 {α : Type} {y : α} {l : List α} : y ∈ (y :: l) := .head _
theorem mm1 {α : Type} {x0 y : α} {l : List α} : y ∈ (x0 :: y :: l) := .tail _ (.head _)
theorem mm2 {α : Type} {x0 x1 y : α} {l : List α} : y ∈ (x0 :: x1 :: y :: l) := .tail _ (.tail _ (.head _))
theorem mm3 {α : Type} {x0 x1 x2 y : α} {l : List α} : y ∈ (x0 :: x1 :: x2 :: y :: l) := .tail _ (.tail _ (.tail _ (.head _)))
theorem mm4 {α : Type} {x0 x1 x2 x3 y : α} {l : List α} : y ∈ (x0 :: x1 :: x2 :: x3 :: y :: l) := .tail _ (.tail _ (.tail _ (.tail _ (.head _))))
theorem mm5 {α : Type} {x0 x1 x2 x3 x4 y : α} {l : List α} : y ∈ (x0 :: x1 :: x2 :: x3 :: x4 :: y :: l) := .tail _ (.tail _ (.tail _ (.tail _ (.tail _ (.head _)))))
theorem mm6 {α : Type} {x0 x1 x2 x3 x4 x5 y : α} {l : List α} : y ∈ (x0 :: x1 :: x2 :: x3 :: x4 :: x5 :: y :: l) := .tail _ (.tail _ (.tail _ (.tail _ (.tail _ (.tail _ (.head _))))))
theorem mm7 {α : Type} {x0 x1 x2 x3 x4 x5 x6 y : α} {l : List α} : y ∈ (x0 :: x1 :: x2 :: x3 :: x4 :: x5 :: x6 :: y :: l) := .tail _ (.tail _ (.tail _ (.tail _ (.tail _ (.tail _ (.tail _ (.head _)))))))
theorem mm8 {α : Type} {x0 x1 x2 x3 x4 x5 x6 x7 y : α} {l : List α} : y ∈ (x0 :: x1 :: x2 :: x3 :: x4 :: x5 :: x6 :: x7 :: y :: l) := .tail _ (.tail _ (.tail _ (.tail _ (.tail _ (.tail _ (.tail _ (.tail _ (.head _))))))))
theorem mm9 {α : Type} {x0 x1 x2 x3 x4 x5 x6 x7 x8 y : α} {l : List α} : y ∈ (x0 :: x1 :: x2 :: x3 :: x4 :: x5 :: x6 :: x7 :: x8 :: y :: l) := .tail _ (.tail _ (.tail _ (.tail _ (.tail _ (.tail _ (.tail _ (.tail _ (.tail _ (.head _)))))))))
theorem tt10 {α : Type} {x0 x1 x2 x3 x4 x5 x6 x7 x8 x9 y : α} {l : List α} (h : y ∈ l) : y ∈ x0 :: x1 :: x2 :: x3 :: x4 :: x5 :: x6 :: x7 :: x8 :: x9 :: l := by simp [h]
abbrev CN (f : FuncId) (args : Array Value) (r : Value) : Prop := ∀ W, Calls Tryz.prog f args W fun e w' => e = .returned r ∧ Below W.heap.size W w'
theorem c2R {V : World} {g : Nat} {t : TypeId} {a b : Int} (h : Row V g t (i2 a b)) : V.cell? ⟨g, 0, none⟩ = some (.int .i64 a) ∧ V.cell? ⟨g, 1, none⟩ = some (.int .i64 b) := ⟨h.cell 0, h.cell 1⟩
theorem c4R {V : World} {g : Nat} {t : TypeId} {a b c d : Int} (h : Row V g t (i4 a b c d)) : V.cell? ⟨g, 0, none⟩ = some (.int .i64 a) ∧ V.cell? ⟨g, 1, none⟩ = some (.int .i64 b) ∧ V.cell? ⟨g, 2, none⟩ = some (.int .i64 c) ∧ V.cell? ⟨g, 3, none⟩ = some (.int .i64 d) := ⟨h.cell 0, h.cell 1, h.cell 2, h.cell 3⟩
theorem c6R {V : World} {g : Nat} {t : TypeId} {a b c d x y : Int} (h : Row V g t (i6 a b c d x y)) : V.cell? ⟨g, 0, none⟩ = some (.int .i64 a) ∧ V.cell? ⟨g, 1, none⟩ = some (.int .i64 b) ∧ V.cell? ⟨g, 2, none⟩ = some (.int .i64 c) ∧ V.cell? ⟨g, 3, none⟩ = some (.int .i64 d) ∧ V.cell? ⟨g, 4, none⟩ = some (.int .i64 x) ∧ V.cell? ⟨g, 5, none⟩ = some (.int .i64 y) := ⟨h.cell 0, h.cell 1, h.cell 2, h.cell 3, h.cell 4, h.cell 5⟩
theorem kc {w0 V : World} {rows : List (Nat × TypeId × List Value)} {rds : List (Option Addr × List Value)} {t : TypeId} {zs cs : List Value} (h : KpT w0 rows rds V) : KpT w0 ((V.heap.size, t, cs) :: rows) rds ((V.alloc (.cells zs.toArray t)).setRow V.heap.size cs.toArray) :=
 KpT.cons (h.old (Below.setRow ((Below.refl _ _).alloc (Nat.le_refl _) _) (Nat.le_refl _) _)) ((Row.new V t zs).setRow cs)
abbrev RB (w : World) (g7 g8 g10 g12 g13 g15 : Nat) (a b c d x y p q r u n0 n1 n2 fr fi nN nD lN lD gN gD sN sD : Int) : List (Nat × TypeId × List Value) := [(g15, 79, (i2 sN sD)), (g13, 79, (i2 gN gD)), (g12, 79, (i2 lN lD)), (g10, 79, (i2 nN nD)), (g8, 37, (i2 fr fi)), (g7, 40, (i6 a b p q r u)), ((w.heap.size + 1 + 1), 75, [.int .i8 n0, .int .i8 n1, .int .i8 n2]), ((w.heap.size + 1), 73, (i4 p q r u)), (w.heap.size, 40, (i6 a b c d x y))]
theorem fac33_ord : ordPC Tryz.f6.body 33 57 [0, 1, 2, 3, 4, 5, 6, 7, 8, 9, 10, 11, 12, 13, 14, 15, 16, 17, 18, 19, 20, 21, 22, 23, 24, 25, 26, 27, 28, 29, 30, 31, 32, 33, 34, 35, 36, 37, 38, 39, 40, 41, 42, 43, 44, 45, 46, 47, 49, 50, 51, 52, 53, 48, 54, 55, 56] [0, 1, 2, 3, 4, 5, 6, 7, 8, 9, 10, 11, 12, 13, 14, 15, 16, 17, 19, 20, 21, 22, 23, 24, 25, 26, 27, 29, 30, 31, 32, 33, 34, 35, 36, 37, 38, 39, 40, 41, 42, 43, 44, 45, 46, 47, 49, 50, 51, 52, 53, 55, 56] = true := by kernel_rfl
set_option maxRecDepth 100000 in
set_option maxHeartbeats 16000000 in
theorem fac33 {Q : Exit → Act → World → Prop} {w wc : World} {g35 g33 g31 g26 g15 g13 g12 g10 g8 g7 : Nat} {x0 x1 x2 x3 x4 x5 x6 x7 x8 x11 x13 x14 x16 x17 x18 x19 x20 x21 x22 x23 x24 x25 x26 x27 x28 x29 x30 x31 x37 x38 x39 x40 x41 x42 x43 x44 x45 x46 x47 x48 x49 x50 x51 x52 x53 x54 x55 x56 x57 x58 x59 x60 x61 x62 x63 x64 x65 x66 x67 x68 x69 x70 x71 x72 x73 x74 x75 x76 x77 x78 x79 x80 x81 x82 x83 x84 x85 x86 x87 x88 x89 x90 x91 x92 x93 x94 x95 x96 x97 x98 x99 x100 x101 x102 x103 x104 x105 x106 x107 x108 x109 x110 x111 x112 x113 x114 x115 x116 x117 x118 x119 x120 x121 x122 x123 x124 x125 x126 x127 x128 x129 x130 x131 x132 x133 x134 x135 x136 x137 x138 x139 x140 x141 x142 x143 x144 x145 x146 x147 x148 x149 x150 x151 x152 x153 x154 x155 x156 x157 x158 x159 x160 x161 x162 x163 x164 x165 x166 x167 x168 x169 x170 x171 x172 x173 x174 x175 x176 x177 x178 x179 x180 x181 x182 x183 x184 x185 x186 x187 x188 x189 x190 x191 x192 x193 x194 x195 x196 x197 x198 x199 x200 x201 x202 x203 x204 x205 x206 x207 x208 x209 x210 x211 x212 x213 x214 x215 x216 x217 x218 x219 x220 x221 x222 x223 x224 x225 x226 x227 x228 x229 x230 x231 x232 x233 x234 x235 x236 x237 x238 x239 x240 x241 x242 x243 x244 x245 x246 x247 x248 x249 x250 x251 x252 x253 x254 x255 x256 x257 x258 x259 x260 x261 x262 x263 x264 x265 x266 x267 x268 x269 x270 x271 x272 x273 x274 x275 x276 x277 x278 x279 x280 x281 x282 x283 x284 x285 x286 x287 x288 x289 x290 x291 x292 x293 x294 x295 x296 x297 x298 x299 x300 x301 x302 x303 x304 x305 x306 x307 x308 x309 x310 x311 x312 x313 x314 x315 x316 x317 x318 x319 x320 x321 x322 x323 x324 x325 x326 x327 x328 x329 x330 x331 x332 x333 x334 x335 x336 x337 x338 x339 x340 x341 x342 x343 x344 x345 : Value} {a b c d x y p q r u n0 n1 n2 fr fi by0 nN nD lN lD gN gD sN sD mN mD vN vD xN b1 b2 b3 b4 b5 b6 k1 k2 k3 k4 k5 k6 : Int} (ops : Array Oper) (hops : Tryz.f6.body.bind (regOps 33) = some ops) (HK : Hid (KpT w ((g35, 79, (i2 xN nD)) :: (g33, 79, (i2 mN mD)) :: (g31, 39, (i6 b1 b2 b3 b4 b5 b6)) :: (g26, 39, (i6 a b c d x y)) :: RB w g7 g8 g10 g12 g13 g15 a b c d x y p q r u n0 n1 n2 fr fi nN nD lN lD gN gD sN sD) [] wc)) (e1 : IntKind.i64.wrap (by0 * nN) = k1) (e2 : IntKind.i64.wrap (0 - nN) = xN) (e3 : IntKind.i64.wrap (sN * nD) = k2) (e4 : IntKind.i64.wrap (nN * sD) = k3) (e5 : IntKind.i64.wrap (k2 + k3) = k4) (e6 : IntKind.i64.wrap (sD * nD) = k5) (e7 : IntKind.i64.wrap (2 * lN) = k6)  (hL1 : (CN 42 #[.int .i64 k1, .int .i64 nD] (.agg #[.int .i64 mN, .int .i64 mD]))) (hL2 : (CN 42 #[.int .i64 k4, .int .i64 k5] (.agg #[.int .i64 vN, .int .i64 vD]))) (hL3 : (CN 42 #[.int .i64 k6, .int .i64 lD] (.agg #[.int .i64 vN, .int .i64 vD]))) (hP : ∀ c a w d v, Q (.panic c) (Act.put a d v) w → Q (.panic c) a w) (hQ : ∀ (y237 y238 y239 y240 y241 y242 y243 y244 y245 y246 y247 y248 y249 y250 y251 y252 y253 y254 y255 y256 y257 y258 y259 y260 y261 y262 y263 y264 y265 y266 y267 y268 y269 y270 y271 y272 y273 y274 y275 y276 y277 y278 y279 y280 y281 y282 y283 y284 y285 y286 y287 y288 y289 y290 y291 y292 : Value) (W' : World), Below wc.heap.size wc W' → Q .normal ⟨([x0, x1, x2, x3, x4, x5, x6, x7, x8, .int .i64 by0, .pointer (some ⟨g10, 0, none⟩), x11, .pointer (some ⟨g12, 0, none⟩), x13, x14, .pointer (some ⟨g15, 0, none⟩), x16, x17, x18, x19, x20, x21, x22, x23, x24, x25, x26, x27, x28, x29, x30, x31, .int .i64 0, .pointer (some ⟨g33, 0, none⟩), .int .i64 0, .pointer (some ⟨g35, 0, none⟩), .int .i64 0, x37, x38, x39, x40, x41, x42, x43, x44, x45, x46, x47, x48, x49, x50, x51, x52, x53, x54, x55, x56, x57, x58, x59, x60, x61, x62, x63, x64, x65, x66, x67, x68, x69, x70, x71, x72, x73, x74, x75, x76, x77, x78, x79, x80, x81, x82, x83, x84, x85, x86, x87, x88, x89, x90, x91, x92, x93, x94, x95, x96, x97, x98, x99, x100, x101, x102, x103, x104, x105, x106, x107, x108, x109, x110, x111, x112, x113, x114, x115, x116, x117, x118, x119, x120, x121, x122, x123, x124, x125, x126, x127, x128, x129, x130, x131, x132, x133, x134, x135, x136, x137, x138, x139, x140, x141, x142, x143, x144, x145, x146, x147, x148, x149, x150, x151, x152, x153, x154, x155, x156, x157, x158, x159, x160, x161, x162, x163, x164, x165, x166, x167, x168, x169, x170, x171, x172, x173, x174, x175, x176, x177, x178, x179, x180, x181, x182, x183, x184, x185, x186, x187, x188, x189, x190, x191, x192, x193, x194, x195, x196, x197, x198, x199, x200, x201, x202, x203, x204, x205, x206, x207, x208, x209, x210, x211, x212, x213, x214, x215, x216, x217, x218, x219, x220, x221, x222, x223, x224, x225, x226, x227, x228, x229, x230, x231, x232, x233, x234, x235, x236, y237, y238, y239, y240, y241, y242, y243, y244, y245, y246, y247, y248, y249, y250, y251, y252, y253, y254, y255, y256, y257, y258, y259, y260, y261, y262, y263, y264, y265, y266, y267, y268, y269, y270, y271, y272, y273, y274, y275, y276, y277, y278, y279, y280, y281, y282, y283, y284, y285, y286, y287, y288, y289, y290, y291, y292, .bool false, x294, x295, x296, x297, x298, x299, x300, x301, x302, x303, x304, x305, x306, x307, x308, x309, x310, x311, x312, x313, x314, x315, x316, x317, x318, x319, x320, x321, x322, x323, x324, x325, x326, x327, x328, x329, x330, x331, x332, x333, x334, x335, x336, x337, x338, x339, x340, x341, x342, x343, x344, x345] : List Value).toArray, []⟩ W') : Code.wp Tryz.prog (Code.region 33 ops true) Q ⟨([x0, x1, x2, x3, x4, x5, x6, x7, x8, .int .i64 by0, .pointer (some ⟨g10, 0, none⟩), x11, .pointer (some ⟨g12, 0, none⟩), x13, x14, .pointer (some ⟨g15, 0, none⟩), x16, x17, x18, x19, x20, x21, x22, x23, x24, x25, x26, x27, x28, x29, x30, x31, .int .i64 0, .pointer (some ⟨g33, 0, none⟩), .int .i64 0, .pointer (some ⟨g35, 0, none⟩), .int .i64 0, x37, x38, x39, x40, x41, x42, x43, x44, x45, x46, x47, x48, x49, x50, x51, x52, x53, x54, x55, x56, x57, x58, x59, x60, x61, x62, x63, x64, x65, x66, x67, x68, x69, x70, x71, x72, x73, x74, x75, x76, x77, x78, x79, x80, x81, x82, x83, x84, x85, x86, x87, x88, x89, x90, x91, x92, x93, x94, x95, x96, x97, x98, x99, x100, x101, x102, x103, x104, x105, x106, x107, x108, x109, x110, x111, x112, x113, x114, x115, x116, x117, x118, x119, x120, x121, x122, x123, x124, x125, x126, x127, x128, x129, x130, x131, x132, x133, x134, x135, x136, x137, x138, x139, x140, x141, x142, x143, x144, x145, x146, x147, x148, x149, x150, x151, x152, x153, x154, x155, x156, x157, x158, x159, x160, x161, x162, x163, x164, x165, x166, x167, x168, x169, x170, x171, x172, x173, x174, x175, x176, x177, x178, x179, x180, x181, x182, x183, x184, x185, x186, x187, x188, x189, x190, x191, x192, x193, x194, x195, x196, x197, x198, x199, x200, x201, x202, x203, x204, x205, x206, x207, x208, x209, x210, x211, x212, x213, x214, x215, x216, x217, x218, x219, x220, x221, x222, x223, x224, x225, x226, x227, x228, x229, x230, x231, x232, x233, x234, x235, x236, x237, x238, x239, x240, x241, x242, x243, x244, x245, x246, x247, x248, x249, x250, x251, x252, x253, x254, x255, x256, x257, x258, x259, x260, x261, x262, x263, x264, x265, x266, x267, x268, x269, x270, x271, x272, x273, x274, x275, x276, x277, x278, x279, x280, x281, x282, x283, x284, x285, x286, x287, x288, x289, x290, x291, x292, x293, x294, x295, x296, x297, x298, x299, x300, x301, x302, x303, x304, x305, x306, x307, x308, x309, x310, x311, x312, x313, x314, x315, x316, x317, x318, x319, x320, x321, x322, x323, x324, x325, x326, x327, x328, x329, x330, x331, x332, x333, x334, x335, x336, x337, x338, x339, x340, x341, x342, x343, x344, x345] : List Value).toArray, []⟩ wc := by
 obtain ⟨ops', ho⟩ : ∃ o, o = ops := ⟨_, rfl⟩
 cases hops
 clear ho
 refine ordp_start (S := fun V => Below wc.heap.size wc V) 57 [0, 1, 2, 3, 4, 5, 6, 7, 8, 9, 10, 11, 12, 13, 14, 15, 16, 17, 18, 19, 20, 21, 22, 23, 24, 25, 26, 27, 28, 29, 30, 31, 32, 33, 34, 35, 36, 37, 38, 39, 40, 41, 42, 43, 44, 45, 46, 47, 49, 50, 51, 52, 53, 48, 54, 55, 56] [0, 1, 2, 3, 4, 5, 6, 7, 8, 9, 10, 11, 12, 13, 14, 15, 16, 17, 19, 20, 21, 22, 23, 24, 25, 26, 27, 29, 30, 31, 32, 33, 34, 35, 36, 37, 38, 39, 40, 41, 42, 43, 44, 45, 46, 47, 49, 50, 51, 52, 53, 55, 56] (OrdP.of fac33_ord (by kernel_rfl)) (by kernel_rfl) ?_ (fun hF hHeld => ?_)
 · exact (Below.refl _ _).drew
 refine pt hF hP 0 0 rfl rfl rfl (.int .i64 0) (by kernel_rfl) (fun V hV => by kernel_rfl) hHeld ?_
 dsimp only [List.set]
 refine pt hF hP 1 1 rfl rfl rfl (.bool false) (by kernel_rfl) (fun V hV => by kernel_rfl) hHeld ?_
 dsimp only [List.set]
 refine pt hF hP 2 2 rfl rfl rfl (.bool false) (by kernel_rfl) (fun V hV => by kernel_rfl) hHeld ?_
 dsimp only [List.set]
 refine pt hF hP 3 3 rfl rfl rfl (.int .i64 0) (by kernel_rfl) (fun V hV => by kernel_rfl) hHeld ?_
 dsimp only [List.set]
 refine pt hF hP 4 4 rfl rfl rfl (.bool false) (by kernel_rfl) (fun V hV => by kernel_rfl) hHeld ?_
 dsimp only [List.set]
 refine pt hF hP 5 5 rfl rfl rfl (.bool false) (by kernel_rfl) (fun V hV => by kernel_rfl) hHeld ?_
 dsimp only [List.set]
 refine pt hF hP 6 6 rfl rfl rfl (.bool false) (by kernel_rfl) (fun V hV => by kernel_rfl) hHeld ?_
 dsimp only [List.set]
 refine pt hF hP 7 7 rfl rfl rfl (.int .i64 0) (by kernel_rfl) (fun V hV => by kernel_rfl) hHeld ?_
 dsimp only [List.set]
 refine pt hF hP 8 8 rfl rfl rfl (.bool false) (by kernel_rfl) (fun V hV => by kernel_rfl) hHeld ?_
 dsimp only [List.set]
 refine pt hF hP 9 9 rfl rfl rfl (.bool false) (by kernel_rfl) (fun V hV => by kernel_rfl) hHeld ?_
 dsimp only [List.set]
 refine pt hF hP 10 10 rfl rfl rfl (.bool false) (by kernel_rfl) (fun V hV => by kernel_rfl) hHeld ?_
 dsimp only [List.set]
 refine pt hF hP 11 11 rfl rfl rfl (.agg #[.int .i64 mN, .int .i64 mD]) (by kernel_rfl) (fun V hV => ex_rowT 79 _ rfl (g33) rfl 79 [.int .i64 mN, .int .i64 mD] _ Tryz.underlying79 rfl (by kernel_rfl) ((HK.out.old hV).row g33 79 (i2 mN mD) mm1)) hHeld ?_
 dsimp only [List.set]
 refine pt hF hP 12 12 rfl rfl rfl (.int .i64 by0) (by kernel_rfl) (fun V hV => by kernel_rfl) hHeld ?_
 dsimp only [List.set]
 refine pt hF hP 13 13 rfl rfl rfl (.pointer (some ⟨g10, 0, none⟩)) (by kernel_rfl) (fun V hV => by kernel_rfl) hHeld ?_
 dsimp only [List.set]
 refine pt hF hP 14 14 rfl rfl rfl (.int .i64 nN) (by kernel_rfl) (fun V hV => ex_cellI _ rfl (g10) 0 rfl (((HK.out.old hV).row g10 79 (i2 nN nD) mm7).cell 0)) hHeld ?_
 dsimp only [List.set]
 refine pt hF hP 15 15 rfl rfl rfl (.int .i64 k1) (by kernel_rfl) (fun V hV => ex_eqv (by kernel_rfl) e1) hHeld ?_
 dsimp only [List.set]
 refine pt hF hP 16 16 rfl rfl rfl (.pointer (some ⟨g10, 1, none⟩)) (by kernel_rfl) (fun V hV => by kernel_rfl) hHeld ?_
 dsimp only [List.set]
 refine pt hF hP 17 17 rfl rfl rfl (.int .i64 nD) (by kernel_rfl) (fun V hV => ex_cellI _ rfl (g10) 1 rfl (((HK.out.old hV).row g10 79 (i2 nN nD) mm7).cell 1)) hHeld ?_
 dsimp only [List.set]
 refine ordp_step hF 18 18 rfl rfl rfl (fun K hK => ?_)
 go_simp
 go_at_call 42
 refine (hL1 _).mono ?_
 rintro e v18 ⟨rfl, hb18⟩
 try go_simp
 refine hK.out _ _ ?_ (fun hHeld => ?_)
 · exact hHeld.trans (hb18.mono hHeld.size)
 clear hK K
 try simp only [zz]
 refine pt hF hP 19 19 rfl rfl rfl (.bool false) (by kernel_rfl) (fun V hV => ex_neqR _ _ rfl rfl rfl) hHeld ?_
 dsimp only [List.set]
 refine pt hF hP 20 20 rfl rfl rfl (.bool false) (by kernel_rfl) (fun V hV => by kernel_rfl) hHeld ?_
 dsimp only [List.set]
 refine pt hF hP 21 21 rfl rfl rfl (.bool false) (by kernel_rfl) (fun V hV => by kernel_rfl) hHeld ?_
 dsimp only [List.set]
 refine pt hF hP 22 22 rfl rfl rfl (.agg #[.int .i64 xN, .int .i64 nD]) (by kernel_rfl) (fun V hV => ex_rowT 79 _ rfl (g35) rfl 79 [.int .i64 xN, .int .i64 nD] _ Tryz.underlying79 rfl (by kernel_rfl) ((HK.out.old hV).row g35 79 (i2 xN nD) mm0)) hHeld ?_
 dsimp only [List.set]
 refine pt hF hP 23 23 rfl rfl rfl (.pointer (some ⟨g10, 0, none⟩)) (by kernel_rfl) (fun V hV => by kernel_rfl) hHeld ?_
 dsimp only [List.set]
 refine pt hF hP 24 24 rfl rfl rfl (.int .i64 nN) (by kernel_rfl) (fun V hV => ex_cellI _ rfl (g10) 0 rfl (((HK.out.old hV).row g10 79 (i2 nN nD) mm7).cell 0)) hHeld ?_
 dsimp only [List.set]
 refine pt hF hP 25 25 rfl rfl rfl (.int .i64 xN) (by kernel_rfl) (fun V hV => ex_eqv (by kernel_rfl) e2) hHeld ?_
 dsimp only [List.set]
 refine pt hF hP 26 26 rfl rfl rfl (.pointer (some ⟨g10, 1, none⟩)) (by kernel_rfl) (fun V hV => by kernel_rfl) hHeld ?_
 dsimp only [List.set]
 refine pt hF hP 27 27 rfl rfl rfl (.int .i64 nD) (by kernel_rfl) (fun V hV => ex_cellI _ rfl (g10) 1 rfl (((HK.out.old hV).row g10 79 (i2 nN nD) mm7).cell 1)) hHeld ?_
 dsimp only [List.set]
 refine ordp_step hF 28 28 rfl rfl rfl (fun K hK => ?_)
 go_simp
 go_at_call 43
 refine (ratio2_any _ _ _).mono ?_
 rintro e v28 ⟨rfl, hb28⟩
 try go_simp
 refine hK.out _ _ ?_ (fun hHeld => ?_)
 · exact hHeld.trans (hb28.mono hHeld.size)
 clear hK K
 try simp only [zz]
 refine pt hF hP 29 29 rfl rfl rfl (.bool false) (by kernel_rfl) (fun V hV => ex_neqR _ _ rfl rfl rfl) hHeld ?_
 dsimp only [List.set]
 refine pt hF hP 30 30 rfl rfl rfl (.bool false) (by kernel_rfl) (fun V hV => by kernel_rfl) hHeld ?_
 dsimp only [List.set]
 refine pt hF hP 31 31 rfl rfl rfl (.bool false) (by kernel_rfl) (fun V hV => by kernel_rfl) hHeld ?_
 dsimp only [List.set]
 refine pt hF hP 32 32 rfl rfl rfl (.pointer (some ⟨g15, 0, none⟩)) (by kernel_rfl) (fun V hV => by kernel_rfl) hHeld ?_
 dsimp only [List.set]
 refine pt hF hP 33 33 rfl rfl rfl (.int .i64 sN) (by kernel_rfl) (fun V hV => ex_cellI _ rfl (g15) 0 rfl (((HK.out.old hV).row g15 79 (i2 sN sD) mm4).cell 0)) hHeld ?_
 dsimp only [List.set]
 refine pt hF hP 34 34 rfl rfl rfl (.pointer (some ⟨g10, 1, none⟩)) (by kernel_rfl) (fun V hV => by kernel_rfl) hHeld ?_
 dsimp only [List.set]
 refine pt hF hP 35 35 rfl rfl rfl (.int .i64 nD) (by kernel_rfl) (fun V hV => ex_cellI _ rfl (g10) 1 rfl (((HK.out.old hV).row g10 79 (i2 nN nD) mm7).cell 1)) hHeld ?_
 dsimp only [List.set]
 refine pt hF hP 36 36 rfl rfl rfl (.int .i64 k2) (by kernel_rfl) (fun V hV => ex_eqv (by kernel_rfl) e3) hHeld ?_
 dsimp only [List.set]
 refine pt hF hP 37 37 rfl rfl rfl (.pointer (some ⟨g10, 0, none⟩)) (by kernel_rfl) (fun V hV => by kernel_rfl) hHeld ?_
 dsimp only [List.set]
 refine pt hF hP 38 38 rfl rfl rfl (.int .i64 nN) (by kernel_rfl) (fun V hV => ex_cellI _ rfl (g10) 0 rfl (((HK.out.old hV).row g10 79 (i2 nN nD) mm7).cell 0)) hHeld ?_
 dsimp only [List.set]
 refine pt hF hP 39 39 rfl rfl rfl (.pointer (some ⟨g15, 1, none⟩)) (by kernel_rfl) (fun V hV => by kernel_rfl) hHeld ?_
 dsimp only [List.set]
 refine pt hF hP 40 40 rfl rfl rfl (.int .i64 sD) (by kernel_rfl) (fun V hV => ex_cellI _ rfl (g15) 1 rfl (((HK.out.old hV).row g15 79 (i2 sN sD) mm4).cell 1)) hHeld ?_
 dsimp only [List.set]
 refine pt hF hP 41 41 rfl rfl rfl (.int .i64 k3) (by kernel_rfl) (fun V hV => ex_eqv (by kernel_rfl) e4) hHeld ?_
 dsimp only [List.set]
 refine pt hF hP 42 42 rfl rfl rfl (.int .i64 k4) (by kernel_rfl) (fun V hV => ex_eqv (by kernel_rfl) e5) hHeld ?_
 dsimp only [List.set]
 refine pt hF hP 43 43 rfl rfl rfl (.pointer (some ⟨g15, 1, none⟩)) (by kernel_rfl) (fun V hV => by kernel_rfl) hHeld ?_
 dsimp only [List.set]
 refine pt hF hP 44 44 rfl rfl rfl (.int .i64 sD) (by kernel_rfl) (fun V hV => ex_cellI _ rfl (g15) 1 rfl (((HK.out.old hV).row g15 79 (i2 sN sD) mm4).cell 1)) hHeld ?_
 dsimp only [List.set]
 refine pt hF hP 45 45 rfl rfl rfl (.pointer (some ⟨g10, 1, none⟩)) (by kernel_rfl) (fun V hV => by kernel_rfl) hHeld ?_
 dsimp only [List.set]
 refine pt hF hP 46 46 rfl rfl rfl (.int .i64 nD) (by kernel_rfl) (fun V hV => ex_cellI _ rfl (g10) 1 rfl (((HK.out.old hV).row g10 79 (i2 nN nD) mm7).cell 1)) hHeld ?_
 dsimp only [List.set]
 refine pt hF hP 47 47 rfl rfl rfl (.int .i64 k5) (by kernel_rfl) (fun V hV => ex_eqv (by kernel_rfl) e6) hHeld ?_
 dsimp only [List.set]
 refine pt hF hP 48 49 rfl rfl rfl (.pointer (some ⟨g12, 0, none⟩)) (by kernel_rfl) (fun V hV => by kernel_rfl) hHeld ?_
 dsimp only [List.set]
 refine pt hF hP 49 50 rfl rfl rfl (.int .i64 lN) (by kernel_rfl) (fun V hV => ex_cellI _ rfl (g12) 0 rfl (((HK.out.old hV).row g12 79 (i2 lN lD) mm6).cell 0)) hHeld ?_
 dsimp only [List.set]
 refine pt hF hP 50 51 rfl rfl rfl (.int .i64 k6) (by kernel_rfl) (fun V hV => ex_eqv (by kernel_rfl) e7) hHeld ?_
 dsimp only [List.set]
 refine pt hF hP 51 52 rfl rfl rfl (.pointer (some ⟨g12, 1, none⟩)) (by kernel_rfl) (fun V hV => by kernel_rfl) hHeld ?_
 dsimp only [List.set]
 refine pt hF hP 52 53 rfl rfl rfl (.int .i64 lD) (by kernel_rfl) (fun V hV => ex_cellI _ rfl (g12) 1 rfl (((HK.out.old hV).row g12 79 (i2 lN lD) mm6).cell 1)) hHeld ?_
 dsimp only [List.set]
 refine ordp_step hF 53 48 rfl rfl rfl (fun K hK => ?_)
 go_simp
 go_at_call 42
 refine (hL2 _).mono ?_
 rintro e v53 ⟨rfl, hb53⟩
 try go_simp
 refine hK.out _ _ ?_ (fun hHeld => ?_)
 · exact hHeld.trans (hb53.mono hHeld.size)
 clear hK K
 try simp only [zz]
 refine ordp_step hF 54 54 rfl rfl rfl (fun K hK => ?_)
 go_simp
 go_at_call 42
 refine (hL3 _).mono ?_
 rintro e v54 ⟨rfl, hb54⟩
 try go_simp
 refine hK.out _ _ ?_ (fun hHeld => ?_)
 · exact hHeld.trans (hb54.mono hHeld.size)
 clear hK K
 try simp only [zz]
 refine pt hF hP 55 55 rfl rfl rfl (.bool false) (by kernel_rfl) (fun V hV => ex_neqR _ _ rfl rfl rfl) hHeld ?_
 dsimp only [List.set]
 refine pt hF hP 56 56 rfl rfl rfl (.bool false) (by kernel_rfl) (fun V hV => by kernel_rfl) hHeld ?_
 dsimp only [List.set]
 refine ordp_done hF ?_
 exact hQ _ _ _ _ _ _ _ _ _ _ _ _ _ _ _ _ _ _ _ _ _ _ _ _ _ _ _ _ _ _ _ _ _ _ _ _ _ _ _ _ _ _ _ _ _ _ _ _ _ _ _ _ _ _ _ _ _ hHeld
theorem fac38_ord : ordPC Tryz.f6.body 38 37 [0, 1, 2, 3, 4, 5, 6, 7, 8, 9, 10, 11, 12, 13, 14, 15, 16, 17, 18, 19, 20, 21, 22, 23, 24, 25, 26, 27, 28, 29, 30, 31, 32, 33, 34, 35, 36] [0, 1, 2, 3, 4, 5, 6, 7, 8, 9, 10, 11, 13, 14, 15, 16, 17, 18, 19, 20, 21, 22, 23, 24, 25, 26, 27, 28, 29, 30, 31, 32, 34, 35, 36] = true := by kernel_rfl
set_option maxRecDepth 100000 in
set_option maxHeartbeats 16000000 in
theorem fac38 {Q : Exit → Act → World → Prop} {w wc : World} {g41 g39 g37 g35 g33 g31 g26 g15 g13 g12 g10 g8 g7 : Nat} {x0 x1 x2 x3 x4 x5 x6 x7 x8 x9 x11 x12 x13 x14 x15 x16 x17 x18 x19 x20 x21 x22 x23 x24 x25 x26 x27 x28 x29 x30 x31 x32 x33 x34 x35 x36 x39 x43 x44 x45 x46 x47 x48 x49 x50 x51 x52 x53 x54 x55 x56 x57 x58 x59 x60 x61 x62 x63 x64 x65 x66 x67 x68 x69 x70 x71 x72 x73 x74 x75 x76 x77 x78 x79 x80 x81 x82 x83 x84 x85 x86 x87 x88 x89 x90 x91 x92 x93 x94 x95 x96 x97 x98 x99 x100 x101 x102 x103 x104 x105 x106 x107 x108 x109 x110 x111 x112 x113 x114 x115 x116 x117 x118 x119 x120 x121 x122 x123 x124 x125 x126 x127 x128 x129 x130 x131 x132 x133 x134 x135 x136 x137 x138 x139 x140 x141 x142 x143 x144 x145 x146 x147 x148 x149 x150 x151 x152 x153 x154 x155 x156 x157 x158 x159 x160 x161 x162 x163 x164 x165 x166 x167 x168 x169 x170 x171 x172 x173 x174 x175 x176 x177 x178 x179 x180 x181 x182 x183 x184 x185 x186 x187 x188 x189 x190 x191 x192 x193 x194 x195 x196 x197 x198 x199 x200 x201 x202 x203 x204 x205 x206 x207 x208 x209 x210 x211 x212 x213 x214 x215 x216 x217 x218 x219 x220 x221 x222 x223 x224 x225 x226 x227 x228 x229 x230 x231 x232 x233 x234 x235 x236 x237 x238 x239 x240 x241 x242 x243 x244 x245 x246 x247 x248 x249 x250 x251 x252 x253 x254 x255 x256 x257 x258 x259 x260 x261 x262 x263 x264 x265 x266 x267 x268 x269 x270 x271 x272 x273 x274 x275 x276 x277 x278 x279 x280 x281 x282 x283 x284 x285 x286 x287 x288 x289 x290 x291 x292 x293 x294 x295 x296 x297 x298 x299 x300 x301 x302 x303 x304 x305 x306 x307 x308 x309 x310 x311 x312 x313 x314 x315 x316 x317 x318 x319 x320 x321 x322 x323 x324 x325 x326 x327 x328 x329 x330 x331 x332 x333 x334 x335 x336 x337 x338 x339 x340 x341 x342 x343 x344 x345 : Value} {a b c d x y p q r u n0 n1 n2 fr fi nN nD lN lD gN gD sN sD mN mD cN cD zN zD xN b1 b2 b3 b4 b5 b6 o1 o2 o3 o4 o5 o6 j1 j2 j3 j4 j5 : Int} (ops : Array Oper) (hops : Tryz.f6.body.bind (regOps 38) = some ops) (HK : Hid (KpT w ((g41, 79, (i2 zN zD)) :: (g39, 39, (i6 o1 o2 o3 o4 o5 o6)) :: (g37, 79, (i2 cN cD)) :: (g35, 79, (i2 xN nD)) :: (g33, 79, (i2 mN mD)) :: (g31, 39, (i6 b1 b2 b3 b4 b5 b6)) :: (g26, 39, (i6 a b c d x y)) :: RB w g7 g8 g10 g12 g13 g15 a b c d x y p q r u n0 n1 n2 fr fi nN nD lN lD gN gD sN sD) [] wc)) (e8 : IntKind.i64.wrap (nN * cD) = j1) (e9 : IntKind.i64.wrap (cN * nD) = j2) (e10 : IntKind.i64.wrap (j1 + j2) = j3) (e11 : IntKind.i64.wrap (2 * nD) = j4) (e12 : IntKind.i64.wrap (j4 * cD) = j5)  (hR5 : (CN 39 #[.agg #[.int .i64 cN, .int .i64 cD]] (.bool true))) (hL4 : (CN 42 #[.int .i64 j3, .int .i64 j5] (.agg #[.int .i64 zN, .int .i64 zD]))) (hP : ∀ c a w d v, Q (.panic c) (Act.put a d v) w → Q (.panic c) a w) (hQ : ∀ (y310 y311 y312 y313 y314 y315 y316 y317 y318 y319 y320 y321 y322 y323 y324 y325 y326 y327 y328 y329 y330 y331 y332 y333 y334 y335 y336 y337 y338 y339 y340 y341 y342 y343 y344 y345 : Value) (W' : World), Below wc.heap.size wc W' → Q .normal ⟨([x0, x1, x2, x3, x4, x5, .bool true, x7, x8, x9, .pointer (some ⟨g10, 0, none⟩), x11, x12, x13, x14, x15, x16, x17, x18, x19, x20, x21, x22, x23, x24, x25, x26, x27, x28, x29, x30, x31, x32, x33, x34, x35, x36, .pointer (some ⟨g37, 0, none⟩), .int .i64 0, x39, .int .i64 0, .pointer (some ⟨g41, 0, none⟩), .int .i64 0, x43, x44, x45, x46, x47, x48, x49, x50, x51, x52, x53, x54, x55, x56, x57, x58, x59, x60, x61, x62, x63, x64, x65, x66, x67, x68, x69, x70, x71, x72, x73, x74, x75, x76, x77, x78, x79, x80, x81, x82, x83, x84, x85, x86, x87, x88, x89, x90, x91, x92, x93, x94, x95, x96, x97, x98, x99, x100, x101, x102, x103, x104, x105, x106, x107, x108, x109, x110, x111, x112, x113, x114, x115, x116, x117, x118, x119, x120, x121, x122, x123, x124, x125, x126, x127, x128, x129, x130, x131, x132, x133, x134, x135, x136, x137, x138, x139, x140, x141, x142, x143, x144, x145, x146, x147, x148, x149, x150, x151, x152, x153, x154, x155, x156, x157, x158, x159, x160, x161, x162, x163, x164, x165, x166, x167, x168, x169, x170, x171, x172, x173, x174, x175, x176, x177, x178, x179, x180, x181, x182, x183, x184, x185, x186, x187, x188, x189, x190, x191, x192, x193, x194, x195, x196, x197, x198, x199, x200, x201, x202, x203, x204, x205, x206, x207, x208, x209, x210, x211, x212, x213, x214, x215, x216, x217, x218, x219, x220, x221, x222, x223, x224, x225, x226, x227, x228, x229, x230, x231, x232, x233, x234, x235, x236, x237, x238, x239, x240, x241, x242, x243, x244, x245, x246, x247, x248, x249, x250, x251, x252, x253, x254, x255, x256, x257, x258, x259, x260, x261, x262, x263, x264, x265, x266, x267, x268, x269, x270, x271, x272, x273, x274, x275, x276, x277, x278, x279, x280, x281, x282, x283, x284, x285, x286, x287, x288, x289, x290, x291, x292, x293, x294, x295, x296, x297, x298, x299, x300, x301, x302, x303, x304, x305, x306, x307, x308, x309, y310, y311, y312, y313, y314, y315, y316, y317, y318, y319, y320, y321, y322, y323, y324, y325, y326, y327, y328, y329, y330, y331, y332, y333, y334, y335, y336, y337, y338, y339, y340, y341, y342, y343, y344, y345] : List Value).toArray, []⟩ W') : Code.wp Tryz.prog (Code.region 38 ops true) Q ⟨([x0, x1, x2, x3, x4, x5, x6, x7, x8, x9, .pointer (some ⟨g10, 0, none⟩), x11, x12, x13, x14, x15, x16, x17, x18, x19, x20, x21, x22, x23, x24, x25, x26, x27, x28, x29, x30, x31, x32, x33, x34, x35, x36, .pointer (some ⟨g37, 0, none⟩), .int .i64 0, x39, .int .i64 0, .pointer (some ⟨g41, 0, none⟩), .int .i64 0, x43, x44, x45, x46, x47, x48, x49, x50, x51, x52, x53, x54, x55, x56, x57, x58, x59, x60, x61, x62, x63, x64, x65, x66, x67, x68, x69, x70, x71, x72, x73, x74, x75, x76, x77, x78, x79, x80, x81, x82, x83, x84, x85, x86, x87, x88, x89, x90, x91, x92, x93, x94, x95, x96, x97, x98, x99, x100, x101, x102, x103, x104, x105, x106, x107, x108, x109, x110, x111, x112, x113, x114, x115, x116, x117, x118, x119, x120, x121, x122, x123, x124, x125, x126, x127, x128, x129, x130, x131, x132, x133, x134, x135, x136, x137, x138, x139, x140, x141, x142, x143, x144, x145, x146, x147, x148, x149, x150, x151, x152, x153, x154, x155, x156, x157, x158, x159, x160, x161, x162, x163, x164, x165, x166, x167, x168, x169, x170, x171, x172, x173, x174, x175, x176, x177, x178, x179, x180, x181, x182, x183, x184, x185, x186, x187, x188, x189, x190, x191, x192, x193, x194, x195, x196, x197, x198, x199, x200, x201, x202, x203, x204, x205, x206, x207, x208, x209, x210, x211, x212, x213, x214, x215, x216, x217, x218, x219, x220, x221, x222, x223, x224, x225, x226, x227, x228, x229, x230, x231, x232, x233, x234, x235, x236, x237, x238, x239, x240, x241, x242, x243, x244, x245, x246, x247, x248, x249, x250, x251, x252, x253, x254, x255, x256, x257, x258, x259, x260, x261, x262, x263, x264, x265, x266, x267, x268, x269, x270, x271, x272, x273, x274, x275, x276, x277, x278, x279, x280, x281, x282, x283, x284, x285, x286, x287, x288, x289, x290, x291, x292, x293, x294, x295, x296, x297, x298, x299, x300, x301, x302, x303, x304, x305, x306, x307, x308, x309, x310, x311, x312, x313, x314, x315, x316, x317, x318, x319, x320, x321, x322, x323, x324, x325, x326, x327, x328, x329, x330, x331, x332, x333, x334, x335, x336, x337, x338, x339, x340, x341, x342, x343, x344, x345] : List Value).toArray, []⟩ wc := by
 obtain ⟨ops', ho⟩ : ∃ o, o = ops := ⟨_, rfl⟩
 cases hops
 clear ho
 refine ordp_start (S := fun V => Below wc.heap.size wc V) 37 [0, 1, 2, 3, 4, 5, 6, 7, 8, 9, 10, 11, 12, 13, 14, 15, 16, 17, 18, 19, 20, 21, 22, 23, 24, 25, 26, 27, 28, 29, 30, 31, 32, 33, 34, 35, 36] [0, 1, 2, 3, 4, 5, 6, 7, 8, 9, 10, 11, 13, 14, 15, 16, 17, 18, 19, 20, 21, 22, 23, 24, 25, 26, 27, 28, 29, 30, 31, 32, 34, 35, 36] (OrdP.of fac38_ord (by kernel_rfl)) (by kernel_rfl) ?_ (fun hF hHeld => ?_)
 · exact (Below.refl _ _).drew
 refine pt hF hP 0 0 rfl rfl rfl (.int .i64 0) (by kernel_rfl) (fun V hV => by kernel_rfl) hHeld ?_
 dsimp only [List.set]
 refine pt hF hP 1 1 rfl rfl rfl (.bool true) (by kernel_rfl) (fun V hV => by kernel_rfl) hHeld ?_
 dsimp only [List.set]
 refine pt hF hP 2 2 rfl rfl rfl (.bool true) (by kernel_rfl) (fun V hV => by kernel_rfl) hHeld ?_
 dsimp only [List.set]
 refine pt hF hP 3 3 rfl rfl rfl (.int .i64 0) (by kernel_rfl) (fun V hV => by kernel_rfl) hHeld ?_
 dsimp only [List.set]
 refine pt hF hP 4 4 rfl rfl rfl (.bool true) (by kernel_rfl) (fun V hV => by kernel_rfl) hHeld ?_
 dsimp only [List.set]
 refine pt hF hP 5 5 rfl rfl rfl (.bool true) (by kernel_rfl) (fun V hV => by kernel_rfl) hHeld ?_
 dsimp only [List.set]
 refine pt hF hP 6 6 rfl rfl rfl (.bool true) (by kernel_rfl) (fun V hV => by kernel_rfl) hHeld ?_
 dsimp only [List.set]
 refine pt hF hP 7 7 rfl rfl rfl (.int .i64 0) (by kernel_rfl) (fun V hV => by kernel_rfl) hHeld ?_
 dsimp only [List.set]
 refine pt hF hP 8 8 rfl rfl rfl (.bool true) (by kernel_rfl) (fun V hV => by kernel_rfl) hHeld ?_
 dsimp only [List.set]
 refine pt hF hP 9 9 rfl rfl rfl (.bool true) (by kernel_rfl) (fun V hV => by kernel_rfl) hHeld ?_
 dsimp only [List.set]
 refine pt hF hP 10 10 rfl rfl rfl (.bool true) (by kernel_rfl) (fun V hV => by kernel_rfl) hHeld ?_
 dsimp only [List.set]
 refine pt hF hP 11 11 rfl rfl rfl (.agg #[.int .i64 cN, .int .i64 cD]) (by kernel_rfl) (fun V hV => ex_rowT 79 _ rfl (g37) rfl 79 [.int .i64 cN, .int .i64 cD] _ Tryz.underlying79 rfl (by kernel_rfl) ((HK.out.old hV).row g37 79 (i2 cN cD) mm2)) hHeld ?_
 dsimp only [List.set]
 refine ordp_step hF 12 12 rfl rfl rfl (fun K hK => ?_)
 go_simp
 go_at_call 39
 refine (hR5 _).mono ?_
 rintro e v12 ⟨rfl, hb12⟩
 try go_simp
 refine hK.out _ _ ?_ (fun hHeld => ?_)
 · exact hHeld.trans (hb12.mono hHeld.size)
 clear hK K
 try simp only [zz]
 refine pt hF hP 13 13 rfl rfl rfl (.bool true) (by kernel_rfl) (fun V hV => by kernel_rfl) hHeld ?_
 dsimp only [List.set]
 refine pt hF hP 14 14 rfl rfl rfl (.bool true) (by kernel_rfl) (fun V hV => by kernel_rfl) hHeld ?_
 dsimp only [List.set]
 refine pt hF hP 15 15 rfl rfl rfl (.agg #[.int .i64 zN, .int .i64 zD]) (by kernel_rfl) (fun V hV => ex_rowT 79 _ rfl (g41) rfl 79 [.int .i64 zN, .int .i64 zD] _ Tryz.underlying79 rfl (by kernel_rfl) ((HK.out.old hV).row g41 79 (i2 zN zD) mm0)) hHeld ?_
 dsimp only [List.set]
 refine pt hF hP 16 16 rfl rfl rfl (.pointer (some ⟨g10, 0, none⟩)) (by kernel_rfl) (fun V hV => by kernel_rfl) hHeld ?_
 dsimp only [List.set]
 refine pt hF hP 17 17 rfl rfl rfl (.int .i64 nN) (by kernel_rfl) (fun V hV => ex_cellI _ rfl (g10) 0 rfl (((HK.out.old hV).row g10 79 (i2 nN nD) (tt10 mm0)).cell 0)) hHeld ?_
 dsimp only [List.set]
 refine pt hF hP 18 18 rfl rfl rfl (.pointer (some ⟨g37, 1, none⟩)) (by kernel_rfl) (fun V hV => by kernel_rfl) hHeld ?_
 dsimp only [List.set]
 refine pt hF hP 19 19 rfl rfl rfl (.int .i64 cD) (by kernel_rfl) (fun V hV => ex_cellI _ rfl (g37) 1 rfl (((HK.out.old hV).row g37 79 (i2 cN cD) mm2).cell 1)) hHeld ?_
 dsimp only [List.set]
 refine pt hF hP 20 20 rfl rfl rfl (.int .i64 j1) (by kernel_rfl) (fun V hV => ex_eqv (by kernel_rfl) e8) hHeld ?_
 dsimp only [List.set]
 refine pt hF hP 21 21 rfl rfl rfl (.pointer (some ⟨g37, 0, none⟩)) (by kernel_rfl) (fun V hV => by kernel_rfl) hHeld ?_
 dsimp only [List.set]
 refine pt hF hP 22 22 rfl rfl rfl (.int .i64 cN) (by kernel_rfl) (fun V hV => ex_cellI _ rfl (g37) 0 rfl (((HK.out.old hV).row g37 79 (i2 cN cD) mm2).cell 0)) hHeld ?_
 dsimp only [List.set]
 refine pt hF hP 23 23 rfl rfl rfl (.pointer (some ⟨g10, 1, none⟩)) (by kernel_rfl) (fun V hV => by kernel_rfl) hHeld ?_
 dsimp only [List.set]
 refine pt hF hP 24 24 rfl rfl rfl (.int .i64 nD) (by kernel_rfl) (fun V hV => ex_cellI _ rfl (g10) 1 rfl (((HK.out.old hV).row g10 79 (i2 nN nD) (tt10 mm0)).cell 1)) hHeld ?_
 dsimp only [List.set]
 refine pt hF hP 25 25 rfl rfl rfl (.int .i64 j2) (by kernel_rfl) (fun V hV => ex_eqv (by kernel_rfl) e9) hHeld ?_
 dsimp only [List.set]
 refine pt hF hP 26 26 rfl rfl rfl (.int .i64 j3) (by kernel_rfl) (fun V hV => ex_eqv (by kernel_rfl) e10) hHeld ?_
 dsimp only [List.set]
 refine pt hF hP 27 27 rfl rfl rfl (.pointer (some ⟨g10, 1, none⟩)) (by kernel_rfl) (fun V hV => by kernel_rfl) hHeld ?_
 dsimp only [List.set]
 refine pt hF hP 28 28 rfl rfl rfl (.int .i64 nD) (by kernel_rfl) (fun V hV => ex_cellI _ rfl (g10) 1 rfl (((HK.out.old hV).row g10 79 (i2 nN nD) (tt10 mm0)).cell 1)) hHeld ?_
 dsimp only [List.set]
 refine pt hF hP 29 29 rfl rfl rfl (.int .i64 j4) (by kernel_rfl) (fun V hV => ex_eqv (by kernel_rfl) e11) hHeld ?_
 dsimp only [List.set]
 refine pt hF hP 30 30 rfl rfl rfl (.pointer (some ⟨g37, 1, none⟩)) (by kernel_rfl) (fun V hV => by kernel_rfl) hHeld ?_
 dsimp only [List.set]
 refine pt hF hP 31 31 rfl rfl rfl (.int .i64 cD) (by kernel_rfl) (fun V hV => ex_cellI _ rfl (g37) 1 rfl (((HK.out.old hV).row g37 79 (i2 cN cD) mm2).cell 1)) hHeld ?_
 dsimp only [List.set]
 refine pt hF hP 32 32 rfl rfl rfl (.int .i64 j5) (by kernel_rfl) (fun V hV => ex_eqv (by kernel_rfl) e12) hHeld ?_
 dsimp only [List.set]
 refine ordp_step hF 33 33 rfl rfl rfl (fun K hK => ?_)
 go_simp
 go_at_call 42
 refine (hL4 _).mono ?_
 rintro e v33 ⟨rfl, hb33⟩
 try go_simp
 refine hK.out _ _ ?_ (fun hHeld => ?_)
 · exact hHeld.trans (hb33.mono hHeld.size)
 clear hK K
 try simp only [zz]
 refine pt hF hP 34 34 rfl rfl rfl (.bool true) (by kernel_rfl) (fun V hV => ex_eqlR _ _ rfl rfl rfl) hHeld ?_
 dsimp only [List.set]
 refine pt hF hP 35 35 rfl rfl rfl (.bool true) (by kernel_rfl) (fun V hV => by kernel_rfl) hHeld ?_
 dsimp only [List.set]
 refine pt hF hP 36 36 rfl rfl rfl (.bool true) (by kernel_rfl) (fun V hV => by kernel_rfl) hHeld ?_
 dsimp only [List.set]
 refine ordp_done hF ?_
 exact hQ _ _ _ _ _ _ _ _ _ _ _ _ _ _ _ _ _ _ _ _ _ _ _ _ _ _ _ _ _ _ _ _ _ _ _ _ _ hHeld
theorem ord9_16 : ordC Tryz.f9.body 16 104 [0, 0, 2, 0, 4, 0, 6, 0, 8, 0, 10, 0, 12, 0, 14, 0, 16, 0, 18, 0, 20, 0, 22, 0, 24, 0, 26, 27, 28, 29, 29, 31, 32, 33, 34, 34, 36, 37, 38, 39, 39, 41, 42, 43, 44, 44, 46, 47, 48, 49, 49, 51, 52, 53, 54, 55, 56, 57, 57, 59, 60, 61, 62, 63, 64, 65, 66, 67, 68, 69, 70, 71, 72, 73, 74, 75, 76, 77, 78, 79, 80, 81, 82, 83, 84, 85, 86, 86, 88, 89, 90, 91, 92, 93, 94, 95, 96, 97, 98, 99, 100, 100, 102, 103] [0, 1, 2, 3, 4, 5, 6, 7, 8, 9, 10, 11, 12, 13, 14, 15, 16, 17, 18, 19, 20, 21, 22, 23, 24, 29, 34, 39, 44, 49, 57, 86, 100] = true := by kernel_rfl
theorem ord9_29 : ordC Tryz.f9.body 29 98 [0, 0, 2, 0, 4, 0, 6, 0, 8, 0, 10, 0, 12, 0, 14, 0, 16, 0, 18, 19, 20, 21, 22, 23, 24, 25, 25, 27, 28, 29, 30, 30, 32, 33, 34, 35, 35, 37, 38, 39, 40, 40, 42, 43, 44, 45, 45, 47, 48, 49, 50, 50, 52, 53, 54, 55, 55, 57, 58, 59, 60, 60, 62, 63, 64, 65, 66, 67, 67, 69, 70, 71, 72, 73, 74, 75, 76, 77, 78, 79, 80, 81, 82, 83, 84, 85, 86, 87, 88, 86, 90, 91, 92, 93, 93, 95, 96, 97] [0, 1, 2, 3, 4, 5, 6, 7, 8, 9, 10, 11, 12, 13, 14, 15, 16, 25, 30, 35, 40, 45, 50, 55, 60, 67, 86, 87, 88, 93] = true := by kernel_rfl
end Go.Proofs.YtaeebedchbkniaaGreatDoor
