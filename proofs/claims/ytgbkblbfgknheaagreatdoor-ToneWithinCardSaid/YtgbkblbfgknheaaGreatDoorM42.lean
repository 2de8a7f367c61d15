import Derived.Test.YtgbkblbfgknheaaGreatDoorM39
namespace Go.Proofs.YtgbkblbfgknheaaGreatDoor
set_option linter.all false
open Go.RowKit Go.Fl
abbrev q0 : List Value := [.int .i64 10, .int .i64 0, .int .i64 3, .int .i64 0, .int .i64 1, .int .i64 0]
abbrev q1 : List Value := [.int .i64 1, .int .i64 10]
abbrev q2 : List Value := [.int .i64 3, .int .i64 10]
abbrev q3 : List Value := [.int .i64 1, .int .i64 5]
abbrev q4 : List Value := [.int .i64 2, .int .i64 5]
abbrev q5 : List Value := [.int .i64 0, .int .i64 10, .int .i64 0, .int .i64 3, .int .i64 0, .int .i64 1]
abbrev q6 : List Value := [.int .i64 10, .int .i64 0, .int .i64 0, .int .i64 3, .int .i64 0, .int .i64 1]
abbrev q7 : List Value := [.int .i64 0, .int .i64 1]
abbrev q8 : List Value := [.int .i64 1, .int .i64 68]
abbrev q9 : List Value := [.complex .f32 1096810496 0, .complex .f32 1094713344 0, .complex .f32 1090519040 0, .complex .f32 1086324736 0]
abbrev q10 : List Value := [.int .i64 1, .int .i64 0]
abbrev q11 : List Value := [.int .i64 11, .int .i64 0, .int .i64 2, .int .i64 0, .int .i64 0, .int .i64 0]
abbrev q12 : List Value := [.int .i64 0, .int .i64 0]
abbrev q13 : List Value := [.int .i64 0, .int .i64 0, .int .i64 0, .int .i64 0, .int .i64 0, .int .i64 0]
abbrev q14 : List Value := [.int .i64 10, .int .i64 20]
abbrev q15 : List Value := [.int .i64 0, .int .i64 30]
abbrev q16 : List Value := [.int .i64 11, .int .i64 0, .int .i64 2, .int .i64 0, .int .i64 1, .int .i64 0]
set_option maxRecDepth 100000 in
set_option maxHeartbeats 16000000 in
theorem cond9_16 {Q : Exit → Act → World → Prop} {w wc : World} {g33 g27 g13 g11 g9 g7 g5 g3 g2 g1 : Nat} {x21 x24 x35 x36 x37 x38 x39 x40 x41 x42 x43 x44 x45 x46 x47 x48 x49 x50 x51 x52 x53 x54 x55 x56 x57 x58 x59 x60 x61 x62 x63 x64 x65 x66 x67 x68 x69 x70 x71 x72 x73 x74 x75 x76 x77 x78 x79 x80 x81 x82 x83 x84 x85 x86 x87 x88 x89 x90 x91 x92 x93 x94 x95 x96 x97 x98 x99 x100 x101 x102 x103 x104 x105 x106 x107 x108 x109 x110 x111 x112 x113 x114 x115 x116 x117 x118 x119 x120 x121 x122 x123 x124 x125 x126 x127 x128 x129 x130 x131 x132 x133 x134 x135 x136 x137 x138 x139 x140 x141 x142 x143 x144 x145 x146 x147 x148 x149 x150 x151 x152 x153 x154 x155 x156 x157 x158 x159 x160 x161 x162 x163 x164 x165 x166 x167 x168 x169 x170 x171 x172 x173 x174 x175 x176 x177 x178 x179 x180 x181 x182 x183 x184 x185 x186 x187 x188 x189 x190 x191 x192 x193 x194 x195 x196 x197 x198 x199 x200 x201 x202 x203 x204 x205 x206 x207 x208 x209 x210 x211 x212 x213 x214 x215 x216 x217 x218 x219 x220 x221 x222 x223 x224 x225 x226 x227 x228 x229 x230 x231 x232 x233 x234 x235 x236 x237 x238 x239 x240 x241 x242 x243 x244 x245 x246 x247 x248 x249 x250 x251 x252 x253 x254 x255 x256 x257 x258 x259 x260 x261 x262 x263 x264 x265 x266 x267 x268 x269 x270 x271 x272 x273 x274 x275 x276 x277 x278 x279 x280 x281 x282 x283 x284 x285 x286 x287 x288 x289 x290 x291 x292 x293 x294 x295 x296 x297 x298 x299 x300 x301 x302 x303 x304 x305 x306 x307 x308 x309 x310 x311 x312 x313 x314 x315 x316 x317 x318 x319 x320 x321 x322 x323 x324 x325 x326 x327 x328 x329 x330 x331 x332 x333 x334 x335 x336 x337 x338 x339 x340 x341 x342 x343 x344 x345 x346 x347 x348 x349 x350 x351 x352 x353 x354 x355 x356 x357 x358 x359 x360 x361 x362 x363 x364 x365 x366 x367 x368 x369 x370 x371 x372 x373 x374 x375 x376 x377 x378 x379 x380 x381 x382 x383 x384 x385 x386 x387 x388 x389 x390 x391 x392 x393 x394 x395 x396 x397 x398 x399 x400 x401 x402 x403 x404 x405 x406 x407 x408 x409 x410 x411 x412 x413 x414 x415 x416 x417 x418 x419 x420 x421 x422 x423 x424 x425 x426 x427 : Value} (ops : Array Oper) (hops : Tryz.f7.body.bind (regOps 16) = some ops) (HK : Hid (KpT w [(g33, 90, q8), (g27, 3, (ints [5, 8, 11])), (g13, 90, q7), (g11, 50, q6), (g9, 50, q5), (g7, 90, q4), (g5, 90, q3), (g3, 90, q1), (g2, 90, q2), (g1, 50, q0)] [] wc)) (hP : ∀ c a w d v, Q (.panic c) (Act.put a d v) w → Q (.panic c) a w) (hQ : ∀ (y153 y154 y155 y156 y157 y158 y159 y160 y161 y162 y163 y164 y165 y166 y167 y168 y169 y170 y171 y172 y173 y174 y175 y176 y177 y178 y179 y180 y181 y182 y183 y184 y185 y186 y187 y188 y189 y190 y191 y192 y193 y194 y195 y196 y197 y198 y199 y200 y201 y202 y203 y204 y205 y206 y207 y208 y209 y210 y211 y212 y213 y214 y215 y216 y217 y218 y219 y220 y221 y222 y223 y224 y225 y226 y227 y228 y229 y230 y231 y232 y233 y234 y235 y236 y237 y238 y239 y240 y241 y242 y243 y244 y245 y246 y247 y248 y249 y250 y251 y252 y253 y254 y255 : Value) (W' : World), Below wc.heap.size wc W' → Q .normal ⟨([.bool false, .pointer (some ⟨g1, 0, none⟩), .pointer (some ⟨g2, 0, none⟩), .pointer (some ⟨g3, 0, none⟩), .int .i64 0, .pointer (some ⟨g5, 0, none⟩), .int .i64 0, .pointer (some ⟨g7, 0, none⟩), .int .i64 0, .pointer (some ⟨g9, 0, none⟩), .int .i64 0, .pointer (some ⟨g11, 0, none⟩), .int .i64 0, .pointer (some ⟨g13, 0, none⟩), .int .i64 0, .int .i64 20, .string ⟨#[]⟩, .int .i64 0, .int .i64 30, .string ⟨#[]⟩, .int .i64 0, x21, .string ⟨#[100, 101, 112, 116, 104]⟩, .int .i64 0, x24, .string ⟨#[119, 101, 97, 107]⟩, .int .i64 0, .slice (some ⟨g27, 0, none⟩) 3 3, .int .i64 0, .int .i64 0, .int .i64 0, .int .i64 2, .int .i64 0, .pointer (some ⟨g33, 0, none⟩), .int .i64 0, x35, x36, x37, x38, x39, x40, x41, x42, x43, x44, x45, x46, x47, x48, x49, x50, x51, x52, x53, x54, x55, x56, x57, x58, x59, x60, x61, x62, x63, x64, x65, x66, x67, x68, x69, x70, x71, x72, x73, x74, x75, x76, x77, x78, x79, x80, x81, x82, x83, x84, x85, x86, x87, x88, x89, x90, x91, x92, x93, x94, x95, x96, x97, x98, x99, x100, x101, x102, x103, x104, x105, x106, x107, x108, x109, x110, x111, x112, x113, x114, x115, x116, x117, x118, x119, x120, x121, x122, x123, x124, x125, x126, x127, x128, x129, x130, x131, x132, x133, x134, x135, x136, x137, x138, x139, x140, x141, x142, x143, x144, x145, x146, x147, x148, x149, x150, x151, x152, y153, y154, y155, y156, y157, y158, y159, y160, y161, y162, y163, y164, y165, y166, y167, y168, y169, y170, y171, y172, y173, y174, y175, y176, y177, y178, y179, y180, y181, y182, y183, y184, y185, y186, y187, y188, y189, y190, y191, y192, y193, y194, y195, y196, y197, y198, y199, y200, y201, y202, y203, y204, y205, y206, y207, y208, y209, y210, y211, y212, y213, y214, y215, y216, y217, y218, y219, y220, y221, y222, y223, y224, y225, y226, y227, y228, y229, y230, y231, y232, y233, y234, y235, y236, y237, y238, y239, y240, y241, y242, y243, y244, y245, y246, y247, y248, y249, y250, y251, y252, y253, y254, y255, .bool false, x257, x258, x259, x260, x261, x262, x263, x264, x265, x266, x267, x268, x269, x270, x271, x272, x273, x274, x275, x276, x277, x278, x279, x280, x281, x282, x283, x284, x285, x286, x287, x288, x289, x290, x291, x292, x293, x294, x295, x296, x297, x298, x299, x300, x301, x302, x303, x304, x305, x306, x307, x308, x309, x310, x311, x312, x313, x314, x315, x316, x317, x318, x319, x320, x321, x322, x323, x324, x325, x326, x327, x328, x329, x330, x331, x332, x333, x334, x335, x336, x337, x338, x339, x340, x341, x342, x343, x344, x345, x346, x347, x348, x349, x350, x351, x352, x353, x354, x355, x356, x357, x358, x359, x360, x361, x362, x363, x364, x365, x366, x367, x368, x369, x370, x371, x372, x373, x374, x375, x376, x377, x378, x379, x380, x381, x382, x383, x384, x385, x386, x387, x388, x389, x390, x391, x392, x393, x394, x395, x396, x397, x398, x399, x400, x401, x402, x403, x404, x405, x406, x407, x408, x409, x410, x411, x412, x413, x414, x415, x416, x417, x418, x419, x420, x421, x422, x423, x424, x425, x426, x427] : List Value).toArray, []⟩ W') : Code.wp Tryz.prog (Code.region 16 ops true) Q ⟨([.bool false, .pointer (some ⟨g1, 0, none⟩), .pointer (some ⟨g2, 0, none⟩), .pointer (some ⟨g3, 0, none⟩), .int .i64 0, .pointer (some ⟨g5, 0, none⟩), .int .i64 0, .pointer (some ⟨g7, 0, none⟩), .int .i64 0, .pointer (some ⟨g9, 0, none⟩), .int .i64 0, .pointer (some ⟨g11, 0, none⟩), .int .i64 0, .pointer (some ⟨g13, 0, none⟩), .int .i64 0, .int .i64 20, .string ⟨#[]⟩, .int .i64 0, .int .i64 30, .string ⟨#[]⟩, .int .i64 0, x21, .string ⟨#[100, 101, 112, 116, 104]⟩, .int .i64 0, x24, .string ⟨#[119, 101, 97, 107]⟩, .int .i64 0, .slice (some ⟨g27, 0, none⟩) 3 3, .int .i64 0, .int .i64 0, .int .i64 0, .int .i64 2, .int .i64 0, .pointer (some ⟨g33, 0, none⟩), .int .i64 0, x35, x36, x37, x38, x39, x40, x41, x42, x43, x44, x45, x46, x47, x48, x49, x50, x51, x52, x53, x54, x55, x56, x57, x58, x59, x60, x61, x62, x63, x64, x65, x66, x67, x68, x69, x70, x71, x72, x73, x74, x75, x76, x77, x78, x79, x80, x81, x82, x83, x84, x85, x86, x87, x88, x89, x90, x91, x92, x93, x94, x95, x96, x97, x98, x99, x100, x101, x102, x103, x104, x105, x106, x107, x108, x109, x110, x111, x112, x113, x114, x115, x116, x117, x118, x119, x120, x121, x122, x123, x124, x125, x126, x127, x128, x129, x130, x131, x132, x133, x134, x135, x136, x137, x138, x139, x140, x141, x142, x143, x144, x145, x146, x147, x148, x149, x150, x151, x152, x153, x154, x155, x156, x157, x158, x159, x160, x161, x162, x163, x164, x165, x166, x167, x168, x169, x170, x171, x172, x173, x174, x175, x176, x177, x178, x179, x180, x181, x182, x183, x184, x185, x186, x187, x188, x189, x190, x191, x192, x193, x194, x195, x196, x197, x198, x199, x200, x201, x202, x203, x204, x205, x206, x207, x208, x209, x210, x211, x212, x213, x214, x215, x216, x217, x218, x219, x220, x221, x222, x223, x224, x225, x226, x227, x228, x229, x230, x231, x232, x233, x234, x235, x236, x237, x238, x239, x240, x241, x242, x243, x244, x245, x246, x247, x248, x249, x250, x251, x252, x253, x254, x255, x256, x257, x258, x259, x260, x261, x262, x263, x264, x265, x266, x267, x268, x269, x270, x271, x272, x273, x274, x275, x276, x277, x278, x279, x280, x281, x282, x283, x284, x285, x286, x287, x288, x289, x290, x291, x292, x293, x294, x295, x296, x297, x298, x299, x300, x301, x302, x303, x304, x305, x306, x307, x308, x309, x310, x311, x312, x313, x314, x315, x316, x317, x318, x319, x320, x321, x322, x323, x324, x325, x326, x327, x328, x329, x330, x331, x332, x333, x334, x335, x336, x337, x338, x339, x340, x341, x342, x343, x344, x345, x346, x347, x348, x349, x350, x351, x352, x353, x354, x355, x356, x357, x358, x359, x360, x361, x362, x363, x364, x365, x366, x367, x368, x369, x370, x371, x372, x373, x374, x375, x376, x377, x378, x379, x380, x381, x382, x383, x384, x385, x386, x387, x388, x389, x390, x391, x392, x393, x394, x395, x396, x397, x398, x399, x400, x401, x402, x403, x404, x405, x406, x407, x408, x409, x410, x411, x412, x413, x414, x415, x416, x417, x418, x419, x420, x421, x422, x423, x424, x425, x426, x427] : List Value).toArray, []⟩ wc := by
 obtain ⟨ops', ho⟩ : ∃ o, o = ops := ⟨_, rfl⟩
 cases hops
 clear ho
 refine ord_start (S := fun V => Below wc.heap.size wc V) 104 [0, 0, 2, 0, 4, 0, 6, 0, 8, 0, 10, 0, 12, 0, 14, 0, 16, 0, 18, 0, 20, 0, 22, 0, 24, 0, 26, 27, 28, 29, 29, 31, 32, 33, 34, 34, 36, 37, 38, 39, 39, 41, 42, 43, 44, 44, 46, 47, 48, 49, 49, 51, 52, 53, 54, 55, 56, 57, 57, 59, 60, 61, 62, 63, 64, 65, 66, 67, 68, 69, 70, 71, 72, 73, 74, 75, 76, 77, 78, 79, 80, 81, 82, 83, 84, 85, 86, 86, 88, 89, 90, 91, 92, 93, 94, 95, 96, 97, 98, 99, 100, 100, 102, 103] [0, 1, 2, 3, 4, 5, 6, 7, 8, 9, 10, 11, 12, 13, 14, 15, 16, 17, 18, 19, 20, 21, 22, 23, 24, 29, 34, 39, 44, 49, 57, 86, 100] (OrdOk.of ord9_16 (by kernel_rfl)) (by kernel_rfl) ?_ (fun hF hHeld => ?_)
 · exact (Below.refl _ _).drew
 refine ord_takeL hF 0 (by decide) (v := .int .i64 0) rfl (fun c a w h => hP c a w _ _ h) (Or.inl ⟨by kernel_rfl, fun V hV => by kernel_rfl⟩) hHeld ?_
 dsimp only [List.set_cons_succ, List.set_cons_zero]
 refine ord_takeL hF 1 (by decide) (v := .int .i64 0) rfl (fun c a w h => hP c a w _ _ h) (Or.inl ⟨by kernel_rfl, fun V hV => by kernel_rfl⟩) hHeld ?_
 dsimp only [List.set_cons_succ, List.set_cons_zero]
 refine ord_takeL hF 2 (by decide) (v := .int .i64 0) rfl (fun c a w h => hP c a w _ _ h) (Or.inl ⟨by kernel_rfl, fun V hV => by kernel_rfl⟩) hHeld ?_
 dsimp only [List.set_cons_succ, List.set_cons_zero]
 refine ord_takeL hF 3 (by decide) (v := .int .i64 0) rfl (fun c a w h => hP c a w _ _ h) (Or.inl ⟨by kernel_rfl, fun V hV => by kernel_rfl⟩) hHeld ?_
 dsimp only [List.set_cons_succ, List.set_cons_zero]
 refine ord_takeL hF 4 (by decide) (v := .int .i64 0) rfl (fun c a w h => hP c a w _ _ h) (Or.inl ⟨by kernel_rfl, fun V hV => by kernel_rfl⟩) hHeld ?_
 dsimp only [List.set_cons_succ, List.set_cons_zero]
 refine ord_takeL hF 5 (by decide) (v := .int .i64 0) rfl (fun c a w h => hP c a w _ _ h) (Or.inl ⟨by kernel_rfl, fun V hV => by kernel_rfl⟩) hHeld ?_
 dsimp only [List.set_cons_succ, List.set_cons_zero]
 refine ord_takeL hF 6 (by decide) (v := .int .i64 0) rfl (fun c a w h => hP c a w _ _ h) (Or.inl ⟨by kernel_rfl, fun V hV => by kernel_rfl⟩) hHeld ?_
 dsimp only [List.set_cons_succ, List.set_cons_zero]
 refine ord_takeL hF 7 (by decide) (v := .int .i64 0) rfl (fun c a w h => hP c a w _ _ h) (Or.inl ⟨by kernel_rfl, fun V hV => by kernel_rfl⟩) hHeld ?_
 dsimp only [List.set_cons_succ, List.set_cons_zero]
 refine ord_takeL hF 8 (by decide) (v := .int .i64 0) rfl (fun c a w h => hP c a w _ _ h) (Or.inl ⟨by kernel_rfl, fun V hV => by kernel_rfl⟩) hHeld ?_
 dsimp only [List.set_cons_succ, List.set_cons_zero]
 refine ord_takeL hF 9 (by decide) (v := .int .i64 0) rfl (fun c a w h => hP c a w _ _ h) (Or.inl ⟨by kernel_rfl, fun V hV => by kernel_rfl⟩) hHeld ?_
 dsimp only [List.set_cons_succ, List.set_cons_zero]
 refine ord_takeL hF 10 (by decide) (v := .int .i64 0) rfl (fun c a w h => hP c a w _ _ h) (Or.inl ⟨by kernel_rfl, fun V hV => by kernel_rfl⟩) hHeld ?_
 dsimp only [List.set_cons_succ, List.set_cons_zero]
 refine ord_takeL hF 11 (by decide) (v := .int .i64 0) rfl (fun c a w h => hP c a w _ _ h) (Or.inl ⟨by kernel_rfl, fun V hV => by kernel_rfl⟩) hHeld ?_
 dsimp only [List.set_cons_succ, List.set_cons_zero]
 refine ord_takeL hF 12 (by decide) (v := .int .i64 0) rfl (fun c a w h => hP c a w _ _ h) (Or.inl ⟨by kernel_rfl, fun V hV => by kernel_rfl⟩) hHeld ?_
 dsimp only [List.set_cons_succ, List.set_cons_zero]
 refine ord_takeL hF 13 (by decide) (v := .int .i64 0) rfl (fun c a w h => hP c a w _ _ h) (Or.inl ⟨by kernel_rfl, fun V hV => by kernel_rfl⟩) hHeld ?_
 dsimp only [List.set_cons_succ, List.set_cons_zero]
 refine ord_takeL hF 14 (by decide) (v := .int .i64 0) rfl (fun c a w h => hP c a w _ _ h) (Or.inl ⟨by kernel_rfl, fun V hV => by kernel_rfl⟩) hHeld ?_
 dsimp only [List.set_cons_succ, List.set_cons_zero]
 refine ord_takeL hF 15 (by decide) (v := .int .i64 0) rfl (fun c a w h => hP c a w _ _ h) (Or.inl ⟨by kernel_rfl, fun V hV => by kernel_rfl⟩) hHeld ?_
 dsimp only [List.set_cons_succ, List.set_cons_zero]
 refine ord_takeL hF 16 (by decide) (v := .int .i64 0) rfl (fun c a w h => hP c a w _ _ h) (Or.inl ⟨by kernel_rfl, fun V hV => by kernel_rfl⟩) hHeld ?_
 dsimp only [List.set_cons_succ, List.set_cons_zero]
 refine ord_takeL hF 17 (by decide) (v := .int .i64 0) rfl (fun c a w h => hP c a w _ _ h) (Or.inl ⟨by kernel_rfl, fun V hV => by kernel_rfl⟩) hHeld ?_
 dsimp only [List.set_cons_succ, List.set_cons_zero]
 refine ord_takeL hF 18 (by decide) (v := .int .i64 0) rfl (fun c a w h => hP c a w _ _ h) (Or.inl ⟨by kernel_rfl, fun V hV => by kernel_rfl⟩) hHeld ?_
 dsimp only [List.set_cons_succ, List.set_cons_zero]
 refine ord_takeL hF 19 (by decide) (v := .int .i64 0) rfl (fun c a w h => hP c a w _ _ h) (Or.inl ⟨by kernel_rfl, fun V hV => by kernel_rfl⟩) hHeld ?_
 dsimp only [List.set_cons_succ, List.set_cons_zero]
 refine ord_takeL hF 20 (by decide) (v := .int .i64 0) rfl (fun c a w h => hP c a w _ _ h) (Or.inl ⟨by kernel_rfl, fun V hV => by kernel_rfl⟩) hHeld ?_
 dsimp only [List.set_cons_succ, List.set_cons_zero]
 refine ord_takeL hF 21 (by decide) (v := .int .i64 0) rfl (fun c a w h => hP c a w _ _ h) (Or.inl ⟨by kernel_rfl, fun V hV => by kernel_rfl⟩) hHeld ?_
 dsimp only [List.set_cons_succ, List.set_cons_zero]
 refine ord_takeL hF 22 (by decide) (v := .int .i64 0) rfl (fun c a w h => hP c a w _ _ h) (Or.inl ⟨by kernel_rfl, fun V hV => by kernel_rfl⟩) hHeld ?_
 dsimp only [List.set_cons_succ, List.set_cons_zero]
 refine ord_takeL hF 23 (by decide) (v := .int .i64 0) rfl (fun c a w h => hP c a w _ _ h) (Or.inl ⟨by kernel_rfl, fun V hV => by kernel_rfl⟩) hHeld ?_
 dsimp only [List.set_cons_succ, List.set_cons_zero]
 refine ord_takeL hF 24 (by decide) (v := .int .i64 0) rfl (fun c a w h => hP c a w _ _ h) (Or.inl ⟨by kernel_rfl, fun V hV => by kernel_rfl⟩) hHeld ?_
 dsimp only [List.set_cons_succ, List.set_cons_zero]
 refine ord_oneL hF 25 (by decide) (v := .int .i64 0) rfl (Or.inl ⟨by kernel_rfl, fun V hV => by kernel_rfl⟩) hHeld ?_
 dsimp only [List.set_cons_succ, List.set_cons_zero]
 refine ord_oneL hF 26 (by decide) (v := .int .i64 0) rfl (Or.inl ⟨by kernel_rfl, fun V hV => by kernel_rfl⟩) hHeld ?_
 dsimp only [List.set_cons_succ, List.set_cons_zero]
 refine ord_oneL hF 27 (by decide) (v := .bool false) rfl (Or.inl ⟨by kernel_rfl, fun V hV => by kernel_rfl⟩) hHeld ?_
 dsimp only [List.set_cons_succ, List.set_cons_zero]
 refine ord_oneL hF 28 (by decide) (v := .bool false) rfl (Or.inl ⟨by kernel_rfl, fun V hV => by kernel_rfl⟩) hHeld ?_
 dsimp only [List.set_cons_succ, List.set_cons_zero]
 refine ord_takeL hF 29 (by decide) (v := .agg #[.int .i64 3, .int .i64 10]) rfl (fun c a w h => hP c a w _ _ h) (Or.inl ⟨by kernel_rfl, fun V hV => ex_rowT 90 _ rfl (g2) rfl 90 [.int .i64 3, .int .i64 10] _ Tryz.underlying90 rfl (by kernel_rfl) ((HK.out.old hV).row g2 90 q2 (.tail _ (.tail _ (.tail _ (.tail _ (.tail _ (.tail _ (.tail _ (.tail _ (.head _))))))))))⟩) hHeld ?_
 dsimp only [List.set_cons_succ, List.set_cons_zero]
 refine ord_step hF 30 (by decide) rfl (fun K hK => ?_)
 go_simp
 go_at_call 41
 refine (ratio2_any _ _ _).mono ?_
 rintro e v30 ⟨rfl, hb30⟩
 try go_simp
 refine hK.out _ _ ?_ (fun hHeld => ?_)
 · exact hHeld.trans (hb30.mono hHeld.size)
 clear hK K
 try simp only [zz]
 refine ord_oneL hF 31 (by decide) (v := .bool false) rfl (Or.inl ⟨by kernel_rfl, fun V hV => by kernel_rfl⟩) hHeld ?_
 dsimp only [List.set_cons_succ, List.set_cons_zero]
 refine ord_oneL hF 32 (by decide) (v := .bool false) rfl (Or.inl ⟨by kernel_rfl, fun V hV => by kernel_rfl⟩) hHeld ?_
 dsimp only [List.set_cons_succ, List.set_cons_zero]
 refine ord_oneL hF 33 (by decide) (v := .bool false) rfl (Or.inl ⟨by kernel_rfl, fun V hV => by kernel_rfl⟩) hHeld ?_
 dsimp only [List.set_cons_succ, List.set_cons_zero]
 refine ord_takeL hF 34 (by decide) (v := .agg #[.int .i64 1, .int .i64 10]) rfl (fun c a w h => hP c a w _ _ h) (Or.inl ⟨by kernel_rfl, fun V hV => ex_rowT 90 _ rfl (g3) rfl 90 [.int .i64 1, .int .i64 10] _ Tryz.underlying90 rfl (by kernel_rfl) ((HK.out.old hV).row g3 90 q1 (.tail _ (.tail _ (.tail _ (.tail _ (.tail _ (.tail _ (.tail _ (.head _)))))))))⟩) hHeld ?_
 dsimp only [List.set_cons_succ, List.set_cons_zero]
 refine ord_step hF 35 (by decide) rfl (fun K hK => ?_)
 go_simp
 go_at_call 41
 refine (ratio2_any _ _ _).mono ?_
 rintro e v35 ⟨rfl, hb35⟩
 try go_simp
 refine hK.out _ _ ?_ (fun hHeld => ?_)
 · exact hHeld.trans (hb35.mono hHeld.size)
 clear hK K
 try simp only [zz]
 refine ord_oneL hF 36 (by decide) (v := .bool false) rfl (Or.inl ⟨by kernel_rfl, fun V hV => by kernel_rfl⟩) hHeld ?_
 dsimp only [List.set_cons_succ, List.set_cons_zero]
 refine ord_oneL hF 37 (by decide) (v := .bool false) rfl (Or.inl ⟨by kernel_rfl, fun V hV => by kernel_rfl⟩) hHeld ?_
 dsimp only [List.set_cons_succ, List.set_cons_zero]
 refine ord_oneL hF 38 (by decide) (v := .bool false) rfl (Or.inl ⟨by kernel_rfl, fun V hV => by kernel_rfl⟩) hHeld ?_
 dsimp only [List.set_cons_succ, List.set_cons_zero]
 refine ord_takeL hF 39 (by decide) (v := .agg #[.int .i64 1, .int .i64 5]) rfl (fun c a w h => hP c a w _ _ h) (Or.inl ⟨by kernel_rfl, fun V hV => ex_rowT 90 _ rfl (g5) rfl 90 [.int .i64 1, .int .i64 5] _ Tryz.underlying90 rfl (by kernel_rfl) ((HK.out.old hV).row g5 90 q3 (.tail _ (.tail _ (.tail _ (.tail _ (.tail _ (.tail _ (.head _))))))))⟩) hHeld ?_
 dsimp only [List.set_cons_succ, List.set_cons_zero]
 refine ord_step hF 40 (by decide) rfl (fun K hK => ?_)
 go_simp
 go_at_call 41
 refine (ratio2_any _ _ _).mono ?_
 rintro e v40 ⟨rfl, hb40⟩
 try go_simp
 refine hK.out _ _ ?_ (fun hHeld => ?_)
 · exact hHeld.trans (hb40.mono hHeld.size)
 clear hK K
 try simp only [zz]
 refine ord_oneL hF 41 (by decide) (v := .bool false) rfl (Or.inl ⟨by kernel_rfl, fun V hV => by kernel_rfl⟩) hHeld ?_
 dsimp only [List.set_cons_succ, List.set_cons_zero]
 refine ord_oneL hF 42 (by decide) (v := .bool false) rfl (Or.inl ⟨by kernel_rfl, fun V hV => by kernel_rfl⟩) hHeld ?_
 dsimp only [List.set_cons_succ, List.set_cons_zero]
 refine ord_oneL hF 43 (by decide) (v := .bool false) rfl (Or.inl ⟨by kernel_rfl, fun V hV => by kernel_rfl⟩) hHeld ?_
 dsimp only [List.set_cons_succ, List.set_cons_zero]
 refine ord_takeL hF 44 (by decide) (v := .agg #[.int .i64 2, .int .i64 5]) rfl (fun c a w h => hP c a w _ _ h) (Or.inl ⟨by kernel_rfl, fun V hV => ex_rowT 90 _ rfl (g7) rfl 90 [.int .i64 2, .int .i64 5] _ Tryz.underlying90 rfl (by kernel_rfl) ((HK.out.old hV).row g7 90 q4 (.tail _ (.tail _ (.tail _ (.tail _ (.tail _ (.head _)))))))⟩) hHeld ?_
 dsimp only [List.set_cons_succ, List.set_cons_zero]
 refine ord_step hF 45 (by decide) rfl (fun K hK => ?_)
 go_simp
 go_at_call 41
 refine (ratio2_any _ _ _).mono ?_
 rintro e v45 ⟨rfl, hb45⟩
 try go_simp
 refine hK.out _ _ ?_ (fun hHeld => ?_)
 · exact hHeld.trans (hb45.mono hHeld.size)
 clear hK K
 try simp only [zz]
 refine ord_oneL hF 46 (by decide) (v := .bool false) rfl (Or.inl ⟨by kernel_rfl, fun V hV => by kernel_rfl⟩) hHeld ?_
 dsimp only [List.set_cons_succ, List.set_cons_zero]
 refine ord_oneL hF 47 (by decide) (v := .bool false) rfl (Or.inl ⟨by kernel_rfl, fun V hV => by kernel_rfl⟩) hHeld ?_
 dsimp only [List.set_cons_succ, List.set_cons_zero]
 refine ord_oneL hF 48 (by decide) (v := .bool false) rfl (Or.inl ⟨by kernel_rfl, fun V hV => by kernel_rfl⟩) hHeld ?_
 dsimp only [List.set_cons_succ, List.set_cons_zero]
 refine ord_takeL hF 49 (by decide) (v := .agg #[.int .i64 0, .int .i64 10, .int .i64 0, .int .i64 3, .int .i64 0, .int .i64 1]) rfl (fun c a w h => hP c a w _ _ h) (Or.inl ⟨by kernel_rfl, fun V hV => ex_rowT 50 _ rfl (g9) rfl 50 [.int .i64 0, .int .i64 10, .int .i64 0, .int .i64 3, .int .i64 0, .int .i64 1] _ Tryz.underlying50 rfl (by kernel_rfl) ((HK.out.old hV).row g9 50 q5 (.tail _ (.tail _ (.tail _ (.tail _ (.head _))))))⟩) hHeld ?_
 dsimp only [List.set_cons_succ, List.set_cons_zero]
 refine ord_step hF 50 (by decide) rfl (fun K hK => ?_)
 go_simp
 go_at_call 18
 refine (at2_any _ _ _).mono ?_
 rintro e v50 ⟨rfl, hb50⟩
 try go_simp
 refine hK.out _ _ ?_ (fun hHeld => ?_)
 · exact hHeld.trans (hb50.mono hHeld.size)
 clear hK K
 try simp only [zz]
 refine ord_step hF 51 (by decide) rfl (fun K hK => ?_)
 go_simp
 go_at_call 18
 refine (at2_any _ _ _).mono ?_
 rintro e v51 ⟨rfl, hb51⟩
 try go_simp
 refine hK.out _ _ ?_ (fun hHeld => ?_)
 · exact hHeld.trans (hb51.mono hHeld.size)
 clear hK K
 try simp only [zz]
 refine ord_step hF 52 (by decide) rfl (fun K hK => ?_)
 go_simp
 go_at_call 18
 refine (at2_any _ _ _).mono ?_
 rintro e v52 ⟨rfl, hb52⟩
 try go_simp
 refine hK.out _ _ ?_ (fun hHeld => ?_)
 · exact hHeld.trans (hb52.mono hHeld.size)
 clear hK K
 try simp only [zz]
 refine ord_oneL hF 53 (by decide) (v := .agg #[.int .i64 0, .int .i64 10, .int .i64 0, .int .i64 3, .int .i64 0, .int .i64 1]) rfl (Or.inl ⟨by kernel_rfl, fun V hV => by kernel_rfl⟩) hHeld ?_
 dsimp only [List.set_cons_succ, List.set_cons_zero]
 refine ord_oneL hF 54 (by decide) (v := .bool false) rfl (Or.inl ⟨by kernel_rfl, fun V hV => by kernel_rfl⟩) hHeld ?_
 dsimp only [List.set_cons_succ, List.set_cons_zero]
 refine ord_oneL hF 55 (by decide) (v := .bool false) rfl (Or.inl ⟨by kernel_rfl, fun V hV => by kernel_rfl⟩) hHeld ?_
 dsimp only [List.set_cons_succ, List.set_cons_zero]
 refine ord_oneL hF 56 (by decide) (v := .bool false) rfl (Or.inl ⟨by kernel_rfl, fun V hV => by kernel_rfl⟩) hHeld ?_
 dsimp only [List.set_cons_succ, List.set_cons_zero]
 refine ord_takeL hF 57 (by decide) (v := .agg #[.int .i64 0, .int .i64 1]) rfl (fun c a w h => hP c a w _ _ h) (Or.inl ⟨by kernel_rfl, fun V hV => ex_rowT 90 _ rfl (g13) rfl 90 [.int .i64 0, .int .i64 1] _ Tryz.underlying90 rfl (by kernel_rfl) ((HK.out.old hV).row g13 90 q7 (.tail _ (.tail _ (.head _))))⟩) hHeld ?_
 dsimp only [List.set_cons_succ, List.set_cons_zero]
 refine ord_step hF 58 (by decide) rfl (fun K hK => ?_)
 go_simp
 go_at_call 41
 refine (ratio2_any _ _ _).mono ?_
 rintro e v58 ⟨rfl, hb58⟩
 try go_simp
 refine hK.out _ _ ?_ (fun hHeld => ?_)
 · exact hHeld.trans (hb58.mono hHeld.size)
 clear hK K
 try simp only [zz]
 refine ord_oneL hF 59 (by decide) (v := .bool false) rfl (Or.inl ⟨by kernel_rfl, fun V hV => by kernel_rfl⟩) hHeld ?_
 dsimp only [List.set_cons_succ, List.set_cons_zero]
 refine ord_oneL hF 60 (by decide) (v := .bool false) rfl (Or.inl ⟨by kernel_rfl, fun V hV => by kernel_rfl⟩) hHeld ?_
 dsimp only [List.set_cons_succ, List.set_cons_zero]
 refine ord_oneL hF 61 (by decide) (v := .bool false) rfl (Or.inl ⟨by kernel_rfl, fun V hV => by kernel_rfl⟩) hHeld ?_
 dsimp only [List.set_cons_succ, List.set_cons_zero]
 refine ord_oneL hF 62 (by decide) (v := .int .i64 20) rfl (Or.inl ⟨by kernel_rfl, fun V hV => by kernel_rfl⟩) hHeld ?_
 dsimp only [List.set_cons_succ, List.set_cons_zero]
 refine ord_oneL hF 63 (by decide) (v := .bool false) rfl (Or.inl ⟨by kernel_rfl, fun V hV => by kernel_rfl⟩) hHeld ?_
 dsimp only [List.set_cons_succ, List.set_cons_zero]
 refine ord_oneL hF 64 (by decide) (v := .bool false) rfl (Or.inl ⟨by kernel_rfl, fun V hV => by kernel_rfl⟩) hHeld ?_
 dsimp only [List.set_cons_succ, List.set_cons_zero]
 refine ord_oneL hF 65 (by decide) (v := .bool false) rfl (Or.inl ⟨by kernel_rfl, fun V hV => by kernel_rfl⟩) hHeld ?_
 dsimp only [List.set_cons_succ, List.set_cons_zero]
 refine ord_oneL hF 66 (by decide) (v := .string ⟨#[]⟩) rfl (Or.inl ⟨by kernel_rfl, fun V hV => by kernel_rfl⟩) hHeld ?_
 dsimp only [List.set_cons_succ, List.set_cons_zero]
 refine ord_oneL hF 67 (by decide) (v := .bool false) rfl (Or.inl ⟨by kernel_rfl, fun V hV => by kernel_rfl⟩) hHeld ?_
 dsimp only [List.set_cons_succ, List.set_cons_zero]
 refine ord_oneL hF 68 (by decide) (v := .bool false) rfl (Or.inl ⟨by kernel_rfl, fun V hV => by kernel_rfl⟩) hHeld ?_
 dsimp only [List.set_cons_succ, List.set_cons_zero]
 refine ord_oneL hF 69 (by decide) (v := .bool false) rfl (Or.inl ⟨by kernel_rfl, fun V hV => by kernel_rfl⟩) hHeld ?_
 dsimp only [List.set_cons_succ, List.set_cons_zero]
 refine ord_oneL hF 70 (by decide) (v := .int .i64 30) rfl (Or.inl ⟨by kernel_rfl, fun V hV => by kernel_rfl⟩) hHeld ?_
 dsimp only [List.set_cons_succ, List.set_cons_zero]
 refine ord_oneL hF 71 (by decide) (v := .bool false) rfl (Or.inl ⟨by kernel_rfl, fun V hV => by kernel_rfl⟩) hHeld ?_
 dsimp only [List.set_cons_succ, List.set_cons_zero]
 refine ord_oneL hF 72 (by decide) (v := .bool false) rfl (Or.inl ⟨by kernel_rfl, fun V hV => by kernel_rfl⟩) hHeld ?_
 dsimp only [List.set_cons_succ, List.set_cons_zero]
 refine ord_oneL hF 73 (by decide) (v := .bool false) rfl (Or.inl ⟨by kernel_rfl, fun V hV => by kernel_rfl⟩) hHeld ?_
 dsimp only [List.set_cons_succ, List.set_cons_zero]
 refine ord_oneL hF 74 (by decide) (v := .string ⟨#[]⟩) rfl (Or.inl ⟨by kernel_rfl, fun V hV => by kernel_rfl⟩) hHeld ?_
 dsimp only [List.set_cons_succ, List.set_cons_zero]
 refine ord_oneL hF 75 (by decide) (v := .bool false) rfl (Or.inl ⟨by kernel_rfl, fun V hV => by kernel_rfl⟩) hHeld ?_
 dsimp only [List.set_cons_succ, List.set_cons_zero]
 refine ord_oneL hF 76 (by decide) (v := .bool false) rfl (Or.inl ⟨by kernel_rfl, fun V hV => by kernel_rfl⟩) hHeld ?_
 dsimp only [List.set_cons_succ, List.set_cons_zero]
 refine ord_oneL hF 77 (by decide) (v := .bool false) rfl (Or.inl ⟨by kernel_rfl, fun V hV => by kernel_rfl⟩) hHeld ?_
 dsimp only [List.set_cons_succ, List.set_cons_zero]
 refine ord_oneL hF 78 (by decide) (v := .string ⟨#[100, 101, 112, 116, 104]⟩) rfl (Or.inl ⟨by kernel_rfl, fun V hV => by kernel_rfl⟩) hHeld ?_
 dsimp only [List.set_cons_succ, List.set_cons_zero]
 refine ord_oneL hF 79 (by decide) (v := .bool false) rfl (Or.inl ⟨by kernel_rfl, fun V hV => by kernel_rfl⟩) hHeld ?_
 dsimp only [List.set_cons_succ, List.set_cons_zero]
 refine ord_oneL hF 80 (by decide) (v := .bool false) rfl (Or.inl ⟨by kernel_rfl, fun V hV => by kernel_rfl⟩) hHeld ?_
 dsimp only [List.set_cons_succ, List.set_cons_zero]
 refine ord_oneL hF 81 (by decide) (v := .bool false) rfl (Or.inl ⟨by kernel_rfl, fun V hV => by kernel_rfl⟩) hHeld ?_
 dsimp only [List.set_cons_succ, List.set_cons_zero]
 refine ord_oneL hF 82 (by decide) (v := .string ⟨#[119, 101, 97, 107]⟩) rfl (Or.inl ⟨by kernel_rfl, fun V hV => by kernel_rfl⟩) hHeld ?_
 dsimp only [List.set_cons_succ, List.set_cons_zero]
 refine ord_oneL hF 83 (by decide) (v := .bool false) rfl (Or.inl ⟨by kernel_rfl, fun V hV => by kernel_rfl⟩) hHeld ?_
 dsimp only [List.set_cons_succ, List.set_cons_zero]
 refine ord_oneL hF 84 (by decide) (v := .bool false) rfl (Or.inl ⟨by kernel_rfl, fun V hV => by kernel_rfl⟩) hHeld ?_
 dsimp only [List.set_cons_succ, List.set_cons_zero]
 refine ord_oneL hF 85 (by decide) (v := .bool false) rfl (Or.inl ⟨by kernel_rfl, fun V hV => by kernel_rfl⟩) hHeld ?_
 dsimp only [List.set_cons_succ, List.set_cons_zero]
 refine ord_takeL hF 86 (by decide) (v := .slice (some ⟨g27, 0, none⟩) 3 3) rfl (fun c a w h => hP c a w _ _ h) (Or.inl ⟨by kernel_rfl, fun V hV => by kernel_rfl⟩) hHeld ?_
 dsimp only [List.set_cons_succ, List.set_cons_zero]
 refine ord_step hF 87 (by decide) rfl (fun K hK => ?_)
 go_simp
 refine hK.out _ _ ?_ (fun hHeld => ?_)
 · exact hHeld.alloc hHeld.size _
 clear hK K
 try simp only [zz]
 refine ord_step hF 88 (by decide) rfl (fun K hK => ?_)
 go_simp
 go_at_call 46
 refine (sameInts_any _ _ _ _ _ _ [5, 8, 11] [5, 8, 11] _ ((Rd.row ((HK.out.old (hHeld)).row g27 3 (ints [5, 8, 11]) (.tail _ (.head _))))) (show Rd _ _ (ints [5, 8, 11]) from Rd.row (t := 3) (by repeat (first | with_reducible exact Row.new _ _ _ | (refine rowAt _ _ ?_; rfl)))) rfl rfl (by decide) (by decide)).mono ?_
 rintro e v88 ⟨rfl, qq, rfl⟩
 try go_simp
 refine hK.out _ _ ?_ (fun hHeld => ?_)
 · exact hHeld.trans ((below_drewN (Below.refl _ _) qq).mono hHeld.size)
 clear hK K
 try simp only [zz]
 refine ord_oneL hF 89 (by decide) (v := .bool false) rfl (Or.inl ⟨by kernel_rfl, fun V hV => by kernel_rfl⟩) hHeld ?_
 dsimp only [List.set_cons_succ, List.set_cons_zero]
 refine ord_oneL hF 90 (by decide) (v := .bool false) rfl (Or.inl ⟨by kernel_rfl, fun V hV => by kernel_rfl⟩) hHeld ?_
 dsimp only [List.set_cons_succ, List.set_cons_zero]
 refine ord_oneL hF 91 (by decide) (v := .bool false) rfl (Or.inl ⟨by kernel_rfl, fun V hV => by kernel_rfl⟩) hHeld ?_
 dsimp only [List.set_cons_succ, List.set_cons_zero]
 refine ord_oneL hF 92 (by decide) (v := .int .i64 0) rfl (Or.inl ⟨by kernel_rfl, fun V hV => by kernel_rfl⟩) hHeld ?_
 dsimp only [List.set_cons_succ, List.set_cons_zero]
 refine ord_oneL hF 93 (by decide) (v := .bool false) rfl (Or.inl ⟨by kernel_rfl, fun V hV => by kernel_rfl⟩) hHeld ?_
 dsimp only [List.set_cons_succ, List.set_cons_zero]
 refine ord_oneL hF 94 (by decide) (v := .bool false) rfl (Or.inl ⟨by kernel_rfl, fun V hV => by kernel_rfl⟩) hHeld ?_
 dsimp only [List.set_cons_succ, List.set_cons_zero]
 refine ord_oneL hF 95 (by decide) (v := .bool false) rfl (Or.inl ⟨by kernel_rfl, fun V hV => by kernel_rfl⟩) hHeld ?_
 dsimp only [List.set_cons_succ, List.set_cons_zero]
 refine ord_oneL hF 96 (by decide) (v := .int .i64 2) rfl (Or.inl ⟨by kernel_rfl, fun V hV => by kernel_rfl⟩) hHeld ?_
 dsimp only [List.set_cons_succ, List.set_cons_zero]
 refine ord_oneL hF 97 (by decide) (v := .bool false) rfl (Or.inl ⟨by kernel_rfl, fun V hV => by kernel_rfl⟩) hHeld ?_
 dsimp only [List.set_cons_succ, List.set_cons_zero]
 refine ord_oneL hF 98 (by decide) (v := .bool false) rfl (Or.inl ⟨by kernel_rfl, fun V hV => by kernel_rfl⟩) hHeld ?_
 dsimp only [List.set_cons_succ, List.set_cons_zero]
 refine ord_oneL hF 99 (by decide) (v := .bool false) rfl (Or.inl ⟨by kernel_rfl, fun V hV => by kernel_rfl⟩) hHeld ?_
 dsimp only [List.set_cons_succ, List.set_cons_zero]
 refine ord_takeL hF 100 (by decide) (v := .agg #[.int .i64 1, .int .i64 68]) rfl (fun c a w h => hP c a w _ _ h) (Or.inl ⟨by kernel_rfl, fun V hV => ex_rowT 90 _ rfl (g33) rfl 90 [.int .i64 1, .int .i64 68] _ Tryz.underlying90 rfl (by kernel_rfl) ((HK.out.old hV).row g33 90 q8 (.head _))⟩) hHeld ?_
 dsimp only [List.set_cons_succ, List.set_cons_zero]
 refine ord_step hF 101 (by decide) rfl (fun K hK => ?_)
 go_simp
 go_at_call 41
 refine (ratio2_any _ _ _).mono ?_
 rintro e v101 ⟨rfl, hb101⟩
 try go_simp
 refine hK.out _ _ ?_ (fun hHeld => ?_)
 · exact hHeld.trans (hb101.mono hHeld.size)
 clear hK K
 try simp only [zz]
 refine ord_oneL hF 102 (by decide) (v := .bool false) rfl (Or.inl ⟨by kernel_rfl, fun V hV => by kernel_rfl⟩) hHeld ?_
 dsimp only [List.set_cons_succ, List.set_cons_zero]
 refine ord_oneL hF 103 (by decide) (v := .bool false) rfl (Or.inl ⟨by kernel_rfl, fun V hV => by kernel_rfl⟩) hHeld ?_
 dsimp only [List.set_cons_succ, List.set_cons_zero]
 refine ord_done hF ?_
 exact hQ _ _ _ _ _ _ _ _ _ _ _ _ _ _ _ _ _ _ _ _ _ _ _ _ _ _ _ _ _ _ _ _ _ _ _ _ _ _ _ _ _ _ _ _ _ _ _ _ _ _ _ _ _ _ _ _ _ _ _ _ _ _ _ _ _ _ _ _ _ _ _ _ _ _ _ _ _ _ _ _ _ _ _ _ _ _ _ _ _ _ _ _ _ _ _ _ _ _ _ _ _ _ _ _ hHeld
set_option maxRecDepth 100000 in
set_option maxHeartbeats 16000000 in
theorem cond9_29 {Q : Exit → Act → World → Prop} {w wc : World} {g59 g48 g46 g44 g43 g41 g40 g38 g37 g35 g33 g27 g13 g11 g9 g7 g5 g3 g2 g1 : Nat} {A50 A52 : Option Addr} {b56 c50 c52 c56 o56 : Nat} {x4 x6 x8 x10 x12 x14 x15 x16 x17 x18 x19 x20 x21 x22 x23 x24 x25 x26 x27 x28 x29 x30 x31 x32 x34 x61 x62 x63 x64 x65 x66 x67 x68 x69 x70 x71 x72 x73 x74 x75 x76 x77 x78 x79 x80 x81 x82 x83 x84 x85 x86 x87 x88 x89 x90 x91 x92 x93 x94 x95 x96 x97 x98 x99 x100 x101 x102 x103 x104 x105 x106 x107 x108 x109 x110 x111 x112 x113 x114 x115 x116 x117 x118 x119 x120 x121 x122 x123 x124 x125 x126 x127 x128 x129 x130 x131 x132 x133 x134 x135 x136 x137 x138 x139 x140 x141 x142 x143 x144 x145 x146 x147 x148 x149 x150 x151 x152 x153 x154 x155 x156 x157 x158 x159 x160 x161 x162 x163 x164 x165 x166 x167 x168 x169 x170 x171 x172 x173 x174 x175 x176 x177 x178 x179 x180 x181 x182 x183 x184 x185 x186 x187 x188 x189 x190 x191 x192 x193 x194 x195 x196 x197 x198 x199 x200 x201 x202 x203 x204 x205 x206 x207 x208 x209 x210 x211 x212 x213 x214 x215 x216 x217 x218 x219 x220 x221 x222 x223 x224 x225 x226 x227 x228 x229 x230 x231 x232 x233 x234 x235 x236 x237 x238 x239 x240 x241 x242 x243 x244 x245 x246 x247 x248 x249 x250 x251 x252 x253 x254 x255 x256 x257 x258 x259 x260 x261 x262 x263 x264 x265 x266 x267 x268 x269 x270 x271 x272 x273 x274 x275 x276 x277 x278 x279 x280 x281 x282 x283 x284 x285 x286 x287 x288 x289 x290 x291 x292 x293 x294 x295 x296 x297 x298 x299 x300 x301 x302 x303 x304 x305 x306 x307 x308 x309 x310 x311 x312 x313 x314 x315 x316 x317 x318 x319 x320 x321 x322 x323 x324 x325 x326 x327 x328 x329 x330 x331 x332 x333 x334 x335 x336 x337 x338 x339 x340 x341 x342 x343 x344 x345 x346 x347 x348 x349 x350 x351 x352 x353 x354 x355 x356 x357 x358 x359 x360 x361 x362 x363 x364 x365 x366 x367 x368 x369 x370 x371 x372 x373 x374 x375 x376 x377 x378 x379 x380 x381 x382 x383 x384 x385 x386 x387 x388 x389 x390 x391 x392 x393 x394 x395 x396 x397 x398 x399 x400 x401 x402 x403 x404 x405 x406 x407 x408 x409 x410 x411 x412 x413 x414 x415 x416 x417 x418 x419 x420 x421 x422 x423 x424 x425 x426 x427 : Value} (ops : Array Oper) (hops : Tryz.f7.body.bind (regOps 29) = some ops) (HK : Hid (KpT w [(g59, 50, q16), (g48, 61, q15), (g46, 61, q14), (g44, 40, q12), (g43, 50, q0), (g41, 40, q12), (g40, 50, q13), (g38, 40, q10), (g37, 50, q11), (g35, 47, q9), (g33, 90, q8), (g27, 3, (ints [5, 8, 11])), (g13, 90, q7), (g11, 50, q6), (g9, 50, q5), (g7, 90, q4), (g5, 90, q3), (g3, 90, q1), (g2, 90, q2), (g1, 50, q0)] [((some ⟨b56, o56, none⟩), (sgC [sgP 10 3 1])), (A52, (spanC [(1, 3)])), (A50, (spanC [(0, 2), (2, 3)]))] wc)) (HC6 : Hid (∀ V, Below wc.heap.size wc V → V.cell? ⟨b56, o56, none⟩ = some (.int .i64 10) ∧ V.cell? ⟨b56, o56 + 1, none⟩ = some (.int .i64 0) ∧ V.cell? ⟨b56, o56 + 2, none⟩ = some (.int .i64 3) ∧ V.cell? ⟨b56, o56 + 3, none⟩ = some (.int .i64 0) ∧ V.cell? ⟨b56, o56 + 4, none⟩ = some (.int .i64 1) ∧ V.cell? ⟨b56, o56 + 5, none⟩ = some (.int .i64 0))) (hP : ∀ c a w d v, Q (.panic c) (Act.put a d v) w → Q (.panic c) a w) (hQ : ∀ (y331 y332 y333 y334 y335 y336 y337 y338 y339 y340 y341 y342 y343 y344 y345 y346 y347 y348 y349 y350 y351 y352 y353 y354 y355 y356 y357 y358 y359 y360 y361 y362 y363 y364 y365 y366 y367 y368 y369 y370 y371 y372 y373 y374 y375 y376 y377 y378 y379 y380 y381 y382 y383 y384 y385 y386 y387 y388 y389 y390 y391 y392 y393 y394 y395 y396 y397 y398 y399 y400 y401 y402 y403 y404 y405 y406 y407 y408 y409 y410 y411 y412 y413 y414 y415 y416 y417 y418 y419 y420 y421 y422 y423 y424 y425 y426 y427 : Value) (W' : World), Below wc.heap.size wc W' → Q .normal ⟨([.bool true, .pointer (some ⟨g1, 0, none⟩), .pointer (some ⟨g2, 0, none⟩), .pointer (some ⟨g3, 0, none⟩), x4, .pointer (some ⟨g5, 0, none⟩), x6, .pointer (some ⟨g7, 0, none⟩), x8, .pointer (some ⟨g9, 0, none⟩), x10, .pointer (some ⟨g11, 0, none⟩), x12, .pointer (some ⟨g13, 0, none⟩), x14, x15, x16, x17, x18, x19, x20, x21, x22, x23, x24, x25, x26, x27, x28, x29, x30, x31, x32, .pointer (some ⟨g33, 0, none⟩), x34, .pointer (some ⟨g35, 0, none⟩), .int .i64 0, .pointer (some ⟨g37, 0, none⟩), .pointer (some ⟨g38, 0, none⟩), .int .i64 0, .pointer (some ⟨g40, 0, none⟩), .pointer (some ⟨g41, 0, none⟩), .int .i64 2, .pointer (some ⟨g43, 0, none⟩), .pointer (some ⟨g44, 0, none⟩), .int .i64 0, .pointer (some ⟨g46, 0, none⟩), .int .i64 0, .pointer (some ⟨g48, 0, none⟩), .int .i64 0, .slice A50 2 c50, .int .i64 0, .slice A52 1 c52, .int .i64 0, .string ⟨#[115, 105, 103, 110, 97, 108, 32, 49, 48, 32, 48, 32, 51, 32, 48, 32, 49, 32, 48, 10]⟩, .int .i64 0, .slice (some ⟨b56, o56, none⟩) 1 c56, .int .i64 0, .int .i64 0, .pointer (some ⟨g59, 0, none⟩), .int .i64 0, x61, x62, x63, x64, x65, x66, x67, x68, x69, x70, x71, x72, x73, x74, x75, x76, x77, x78, x79, x80, x81, x82, x83, x84, x85, x86, x87, x88, x89, x90, x91, x92, x93, x94, x95, x96, x97, x98, x99, x100, x101, x102, x103, x104, x105, x106, x107, x108, x109, x110, x111, x112, x113, x114, x115, x116, x117, x118, x119, x120, x121, x122, x123, x124, x125, x126, x127, x128, x129, x130, x131, x132, x133, x134, x135, x136, x137, x138, x139, x140, x141, x142, x143, x144, x145, x146, x147, x148, x149, x150, x151, x152, x153, x154, x155, x156, x157, x158, x159, x160, x161, x162, x163, x164, x165, x166, x167, x168, x169, x170, x171, x172, x173, x174, x175, x176, x177, x178, x179, x180, x181, x182, x183, x184, x185, x186, x187, x188, x189, x190, x191, x192, x193, x194, x195, x196, x197, x198, x199, x200, x201, x202, x203, x204, x205, x206, x207, x208, x209, x210, x211, x212, x213, x214, x215, x216, x217, x218, x219, x220, x221, x222, x223, x224, x225, x226, x227, x228, x229, x230, x231, x232, x233, x234, x235, x236, x237, x238, x239, x240, x241, x242, x243, x244, x245, x246, x247, x248, x249, x250, x251, x252, x253, x254, x255, x256, x257, x258, x259, x260, x261, x262, x263, x264, x265, x266, x267, x268, x269, x270, x271, x272, x273, x274, x275, x276, x277, x278, x279, x280, x281, x282, x283, x284, x285, x286, x287, x288, x289, x290, x291, x292, x293, x294, x295, x296, x297, x298, x299, x300, x301, x302, x303, x304, x305, x306, x307, x308, x309, x310, x311, x312, x313, x314, x315, x316, x317, x318, x319, x320, x321, x322, x323, x324, x325, x326, x327, x328, x329, x330, y331, y332, y333, y334, y335, y336, y337, y338, y339, y340, y341, y342, y343, y344, y345, y346, y347, y348, y349, y350, y351, y352, y353, y354, y355, y356, y357, y358, y359, y360, y361, y362, y363, y364, y365, y366, y367, y368, y369, y370, y371, y372, y373, y374, y375, y376, y377, y378, y379, y380, y381, y382, y383, y384, y385, y386, y387, y388, y389, y390, y391, y392, y393, y394, y395, y396, y397, y398, y399, y400, y401, y402, y403, y404, y405, y406, y407, y408, y409, y410, y411, y412, y413, y414, y415, y416, y417, y418, y419, y420, y421, y422, y423, y424, y425, y426, y427] : List Value).toArray, []⟩ W') : Code.wp Tryz.prog (Code.region 29 ops true) Q ⟨([.bool false, .pointer (some ⟨g1, 0, none⟩), .pointer (some ⟨g2, 0, none⟩), .pointer (some ⟨g3, 0, none⟩), x4, .pointer (some ⟨g5, 0, none⟩), x6, .pointer (some ⟨g7, 0, none⟩), x8, .pointer (some ⟨g9, 0, none⟩), x10, .pointer (some ⟨g11, 0, none⟩), x12, .pointer (some ⟨g13, 0, none⟩), x14, x15, x16, x17, x18, x19, x20, x21, x22, x23, x24, x25, x26, x27, x28, x29, x30, x31, x32, .pointer (some ⟨g33, 0, none⟩), x34, .pointer (some ⟨g35, 0, none⟩), .int .i64 0, .pointer (some ⟨g37, 0, none⟩), .pointer (some ⟨g38, 0, none⟩), .int .i64 0, .pointer (some ⟨g40, 0, none⟩), .pointer (some ⟨g41, 0, none⟩), .int .i64 2, .pointer (some ⟨g43, 0, none⟩), .pointer (some ⟨g44, 0, none⟩), .int .i64 0, .pointer (some ⟨g46, 0, none⟩), .int .i64 0, .pointer (some ⟨g48, 0, none⟩), .int .i64 0, .slice A50 2 c50, .int .i64 0, .slice A52 1 c52, .int .i64 0, .string ⟨#[115, 105, 103, 110, 97, 108, 32, 49, 48, 32, 48, 32, 51, 32, 48, 32, 49, 32, 48, 10]⟩, .int .i64 0, .slice (some ⟨b56, o56, none⟩) 1 c56, .int .i64 0, .int .i64 0, .pointer (some ⟨g59, 0, none⟩), .int .i64 0, x61, x62, x63, x64, x65, x66, x67, x68, x69, x70, x71, x72, x73, x74, x75, x76, x77, x78, x79, x80, x81, x82, x83, x84, x85, x86, x87, x88, x89, x90, x91, x92, x93, x94, x95, x96, x97, x98, x99, x100, x101, x102, x103, x104, x105, x106, x107, x108, x109, x110, x111, x112, x113, x114, x115, x116, x117, x118, x119, x120, x121, x122, x123, x124, x125, x126, x127, x128, x129, x130, x131, x132, x133, x134, x135, x136, x137, x138, x139, x140, x141, x142, x143, x144, x145, x146, x147, x148, x149, x150, x151, x152, x153, x154, x155, x156, x157, x158, x159, x160, x161, x162, x163, x164, x165, x166, x167, x168, x169, x170, x171, x172, x173, x174, x175, x176, x177, x178, x179, x180, x181, x182, x183, x184, x185, x186, x187, x188, x189, x190, x191, x192, x193, x194, x195, x196, x197, x198, x199, x200, x201, x202, x203, x204, x205, x206, x207, x208, x209, x210, x211, x212, x213, x214, x215, x216, x217, x218, x219, x220, x221, x222, x223, x224, x225, x226, x227, x228, x229, x230, x231, x232, x233, x234, x235, x236, x237, x238, x239, x240, x241, x242, x243, x244, x245, x246, x247, x248, x249, x250, x251, x252, x253, x254, x255, x256, x257, x258, x259, x260, x261, x262, x263, x264, x265, x266, x267, x268, x269, x270, x271, x272, x273, x274, x275, x276, x277, x278, x279, x280, x281, x282, x283, x284, x285, x286, x287, x288, x289, x290, x291, x292, x293, x294, x295, x296, x297, x298, x299, x300, x301, x302, x303, x304, x305, x306, x307, x308, x309, x310, x311, x312, x313, x314, x315, x316, x317, x318, x319, x320, x321, x322, x323, x324, x325, x326, x327, x328, x329, x330, x331, x332, x333, x334, x335, x336, x337, x338, x339, x340, x341, x342, x343, x344, x345, x346, x347, x348, x349, x350, x351, x352, x353, x354, x355, x356, x357, x358, x359, x360, x361, x362, x363, x364, x365, x366, x367, x368, x369, x370, x371, x372, x373, x374, x375, x376, x377, x378, x379, x380, x381, x382, x383, x384, x385, x386, x387, x388, x389, x390, x391, x392, x393, x394, x395, x396, x397, x398, x399, x400, x401, x402, x403, x404, x405, x406, x407, x408, x409, x410, x411, x412, x413, x414, x415, x416, x417, x418, x419, x420, x421, x422, x423, x424, x425, x426, x427] : List Value).toArray, []⟩ wc := by
 obtain ⟨ops', ho⟩ : ∃ o, o = ops := ⟨_, rfl⟩
 cases hops
 clear ho
 refine ord_start (S := fun V => Below wc.heap.size wc V) 98 [0, 0, 2, 0, 4, 0, 6, 0, 8, 0, 10, 0, 12, 0, 14, 0, 16, 0, 18, 19, 20, 21, 22, 23, 24, 25, 25, 27, 28, 29, 30, 30, 32, 33, 34, 35, 35, 37, 38, 39, 40, 40, 42, 43, 44, 45, 45, 47, 48, 49, 50, 50, 52, 53, 54, 55, 55, 57, 58, 59, 60, 60, 62, 63, 64, 65, 66, 67, 67, 69, 70, 71, 72, 73, 74, 75, 76, 77, 78, 79, 80, 81, 82, 83, 84, 85, 86, 87, 88, 86, 90, 91, 92, 93, 93, 95, 96, 97] [0, 1, 2, 3, 4, 5, 6, 7, 8, 9, 10, 11, 12, 13, 14, 15, 16, 25, 30, 35, 40, 45, 50, 55, 60, 67, 86, 87, 88, 93] (OrdOk.of ord9_29 (by kernel_rfl)) (by kernel_rfl) ?_ (fun hF hHeld => ?_)
 · exact (Below.refl _ _).drew
 refine ord_takeL hF 0 (by decide) (v := .int .i64 0) rfl (fun c a w h => hP c a w _ _ h) (Or.inl ⟨by kernel_rfl, fun V hV => by kernel_rfl⟩) hHeld ?_
 dsimp only [List.set_cons_succ, List.set_cons_zero]
 refine ord_takeL hF 1 (by decide) (v := .int .i64 0) rfl (fun c a w h => hP c a w _ _ h) (Or.inl ⟨by kernel_rfl, fun V hV => by kernel_rfl⟩) hHeld ?_
 dsimp only [List.set_cons_succ, List.set_cons_zero]
 refine ord_takeL hF 2 (by decide) (v := .int .i64 0) rfl (fun c a w h => hP c a w _ _ h) (Or.inl ⟨by kernel_rfl, fun V hV => by kernel_rfl⟩) hHeld ?_
 dsimp only [List.set_cons_succ, List.set_cons_zero]
 refine ord_takeL hF 3 (by decide) (v := .int .i64 0) rfl (fun c a w h => hP c a w _ _ h) (Or.inl ⟨by kernel_rfl, fun V hV => by kernel_rfl⟩) hHeld ?_
 dsimp only [List.set_cons_succ, List.set_cons_zero]
 refine ord_takeL hF 4 (by decide) (v := .int .i64 0) rfl (fun c a w h => hP c a w _ _ h) (Or.inl ⟨by kernel_rfl, fun V hV => by kernel_rfl⟩) hHeld ?_
 dsimp only [List.set_cons_succ, List.set_cons_zero]
 refine ord_takeL hF 5 (by decide) (v := .int .i64 0) rfl (fun c a w h => hP c a w _ _ h) (Or.inl ⟨by kernel_rfl, fun V hV => by kernel_rfl⟩) hHeld ?_
 dsimp only [List.set_cons_succ, List.set_cons_zero]
 refine ord_takeL hF 6 (by decide) (v := .int .i64 0) rfl (fun c a w h => hP c a w _ _ h) (Or.inl ⟨by kernel_rfl, fun V hV => by kernel_rfl⟩) hHeld ?_
 dsimp only [List.set_cons_succ, List.set_cons_zero]
 refine ord_takeL hF 7 (by decide) (v := .int .i64 0) rfl (fun c a w h => hP c a w _ _ h) (Or.inl ⟨by kernel_rfl, fun V hV => by kernel_rfl⟩) hHeld ?_
 dsimp only [List.set_cons_succ, List.set_cons_zero]
 refine ord_takeL hF 8 (by decide) (v := .int .i64 0) rfl (fun c a w h => hP c a w _ _ h) (Or.inl ⟨by kernel_rfl, fun V hV => by kernel_rfl⟩) hHeld ?_
 dsimp only [List.set_cons_succ, List.set_cons_zero]
 refine ord_takeL hF 9 (by decide) (v := .int .i64 0) rfl (fun c a w h => hP c a w _ _ h) (Or.inl ⟨by kernel_rfl, fun V hV => by kernel_rfl⟩) hHeld ?_
 dsimp only [List.set_cons_succ, List.set_cons_zero]
 refine ord_takeL hF 10 (by decide) (v := .int .i64 0) rfl (fun c a w h => hP c a w _ _ h) (Or.inl ⟨by kernel_rfl, fun V hV => by kernel_rfl⟩) hHeld ?_
 dsimp only [List.set_cons_succ, List.set_cons_zero]
 refine ord_takeL hF 11 (by decide) (v := .int .i64 0) rfl (fun c a w h => hP c a w _ _ h) (Or.inl ⟨by kernel_rfl, fun V hV => by kernel_rfl⟩) hHeld ?_
 dsimp only [List.set_cons_succ, List.set_cons_zero]
 refine ord_takeL hF 12 (by decide) (v := .int .i64 0) rfl (fun c a w h => hP c a w _ _ h) (Or.inl ⟨by kernel_rfl, fun V hV => by kernel_rfl⟩) hHeld ?_
 dsimp only [List.set_cons_succ, List.set_cons_zero]
 refine ord_takeL hF 13 (by decide) (v := .int .i64 0) rfl (fun c a w h => hP c a w _ _ h) (Or.inl ⟨by kernel_rfl, fun V hV => by kernel_rfl⟩) hHeld ?_
 dsimp only [List.set_cons_succ, List.set_cons_zero]
 refine ord_takeL hF 14 (by decide) (v := .int .i64 0) rfl (fun c a w h => hP c a w _ _ h) (Or.inl ⟨by kernel_rfl, fun V hV => by kernel_rfl⟩) hHeld ?_
 dsimp only [List.set_cons_succ, List.set_cons_zero]
 refine ord_takeL hF 15 (by decide) (v := .int .i64 0) rfl (fun c a w h => hP c a w _ _ h) (Or.inl ⟨by kernel_rfl, fun V hV => by kernel_rfl⟩) hHeld ?_
 dsimp only [List.set_cons_succ, List.set_cons_zero]
 refine ord_takeL hF 16 (by decide) (v := .int .i64 0) rfl (fun c a w h => hP c a w _ _ h) (Or.inl ⟨by kernel_rfl, fun V hV => by kernel_rfl⟩) hHeld ?_
 dsimp only [List.set_cons_succ, List.set_cons_zero]
 refine ord_oneL hF 17 (by decide) (v := .int .i64 0) rfl (Or.inl ⟨by kernel_rfl, fun V hV => by kernel_rfl⟩) hHeld ?_
 dsimp only [List.set_cons_succ, List.set_cons_zero]
 refine ord_oneL hF 18 (by decide) (v := .int .i64 0) rfl (Or.inl ⟨by kernel_rfl, fun V hV => by kernel_rfl⟩) hHeld ?_
 dsimp only [List.set_cons_succ, List.set_cons_zero]
 refine ord_oneL hF 19 (by decide) (v := .bool true) rfl (Or.inl ⟨by kernel_rfl, fun V hV => by kernel_rfl⟩) hHeld ?_
 dsimp only [List.set_cons_succ, List.set_cons_zero]
 refine ord_oneL hF 20 (by decide) (v := .bool true) rfl (Or.inl ⟨by kernel_rfl, fun V hV => by kernel_rfl⟩) hHeld ?_
 dsimp only [List.set_cons_succ, List.set_cons_zero]
 refine ord_oneL hF 21 (by decide) (v := .int .i64 2) rfl (Or.inl ⟨by kernel_rfl, fun V hV => by kernel_rfl⟩) hHeld ?_
 dsimp only [List.set_cons_succ, List.set_cons_zero]
 refine ord_oneL hF 22 (by decide) (v := .bool true) rfl (Or.inl ⟨by kernel_rfl, fun V hV => by kernel_rfl⟩) hHeld ?_
 dsimp only [List.set_cons_succ, List.set_cons_zero]
 refine ord_oneL hF 23 (by decide) (v := .bool true) rfl (Or.inl ⟨by kernel_rfl, fun V hV => by kernel_rfl⟩) hHeld ?_
 dsimp only [List.set_cons_succ, List.set_cons_zero]
 refine ord_oneL hF 24 (by decide) (v := .bool true) rfl (Or.inl ⟨by kernel_rfl, fun V hV => by kernel_rfl⟩) hHeld ?_
 dsimp only [List.set_cons_succ, List.set_cons_zero]
 refine ord_takeL hF 25 (by decide) (v := .agg #[.complex .f32 1096810496 0, .complex .f32 1094713344 0, .complex .f32 1090519040 0, .complex .f32 1086324736 0]) rfl (fun c a w h => hP c a w _ _ h) (Or.inl ⟨by kernel_rfl, fun V hV => ex_rowT 47 _ rfl (g35) rfl 47 [.complex .f32 1096810496 0, .complex .f32 1094713344 0, .complex .f32 1090519040 0, .complex .f32 1086324736 0] _ Tryz.underlying47 rfl (by kernel_rfl) ((HK.out.old hV).row g35 47 q9 (.tail _ (.tail _ (.tail _ (.tail _ (.tail _ (.tail _ (.tail _ (.tail _ (.tail _ (.head _)))))))))))⟩) hHeld ?_
 dsimp only [List.set_cons_succ, List.set_cons_zero]
 refine ord_oneL hF 26 (by decide) (v := .agg #[.complex .f32 1096810496 0, .complex .f32 1094713344 0, .complex .f32 1090519040 0, .complex .f32 1086324736 0]) rfl (Or.inl ⟨by kernel_rfl, fun V hV => by kernel_rfl⟩) hHeld ?_
 dsimp only [List.set_cons_succ, List.set_cons_zero]
 refine ord_oneL hF 27 (by decide) (v := .bool true) rfl (Or.inl ⟨by kernel_rfl, fun V hV => by kernel_rfl⟩) hHeld ?_
 dsimp only [List.set_cons_succ, List.set_cons_zero]
 refine ord_oneL hF 28 (by decide) (v := .bool true) rfl (Or.inl ⟨by kernel_rfl, fun V hV => by kernel_rfl⟩) hHeld ?_
 dsimp only [List.set_cons_succ, List.set_cons_zero]
 refine ord_oneL hF 29 (by decide) (v := .bool true) rfl (Or.inl ⟨by kernel_rfl, fun V hV => by kernel_rfl⟩) hHeld ?_
 dsimp only [List.set_cons_succ, List.set_cons_zero]
 refine ord_takeL hF 30 (by decide) (v := .agg #[.int .i64 11, .int .i64 0, .int .i64 2, .int .i64 0, .int .i64 0, .int .i64 0]) rfl (fun c a w h => hP c a w _ _ h) (Or.inl ⟨by kernel_rfl, fun V hV => ex_rowT 50 _ rfl (g37) rfl 50 [.int .i64 11, .int .i64 0, .int .i64 2, .int .i64 0, .int .i64 0, .int .i64 0] _ Tryz.underlying50 rfl (by kernel_rfl) ((HK.out.old hV).row g37 50 q11 (.tail _ (.tail _ (.tail _ (.tail _ (.tail _ (.tail _ (.tail _ (.tail _ (.head _))))))))))⟩) hHeld ?_
 dsimp only [List.set_cons_succ, List.set_cons_zero]
 refine ord_step hF 31 (by decide) rfl (fun K hK => ?_)
 go_simp
 go_at_call 42
 refine (of2_any _ _ _ _).mono ?_
 rintro e v31 ⟨rfl, hb31⟩
 try go_simp
 refine hK.out _ _ ?_ (fun hHeld => ?_)
 · exact hHeld.trans (hb31.mono hHeld.size)
 clear hK K
 try simp only [zz]
 refine ord_oneL hF 32 (by decide) (v := .bool true) rfl (Or.inl ⟨by kernel_rfl, fun V hV => by kernel_rfl⟩) hHeld ?_
 dsimp only [List.set_cons_succ, List.set_cons_zero]
 refine ord_oneL hF 33 (by decide) (v := .bool true) rfl (Or.inl ⟨by kernel_rfl, fun V hV => by kernel_rfl⟩) hHeld ?_
 dsimp only [List.set_cons_succ, List.set_cons_zero]
 refine ord_oneL hF 34 (by decide) (v := .bool true) rfl (Or.inl ⟨by kernel_rfl, fun V hV => by kernel_rfl⟩) hHeld ?_
 dsimp only [List.set_cons_succ, List.set_cons_zero]
 refine ord_takeL hF 35 (by decide) (v := .agg #[.int .i64 1, .int .i64 0]) rfl (fun c a w h => hP c a w _ _ h) (Or.inl ⟨by kernel_rfl, fun V hV => ex_rowT 40 _ rfl (g38) rfl 40 [.int .i64 1, .int .i64 0] _ Tryz.underlying40 rfl (by kernel_rfl) ((HK.out.old hV).row g38 40 q10 (.tail _ (.tail _ (.tail _ (.tail _ (.tail _ (.tail _ (.tail _ (.head _)))))))))⟩) hHeld ?_
 dsimp only [List.set_cons_succ, List.set_cons_zero]
 refine ord_step hF 36 (by decide) rfl (fun K hK => ?_)
 go_simp
 go_at_call 18
 refine (at2_any _ _ _).mono ?_
 rintro e v36 ⟨rfl, hb36⟩
 try go_simp
 refine hK.out _ _ ?_ (fun hHeld => ?_)
 · exact hHeld.trans (hb36.mono hHeld.size)
 clear hK K
 try simp only [zz]
 refine ord_oneL hF 37 (by decide) (v := .bool true) rfl (Or.inl ⟨by kernel_rfl, fun V hV => by kernel_rfl⟩) hHeld ?_
 dsimp only [List.set_cons_succ, List.set_cons_zero]
 refine ord_oneL hF 38 (by decide) (v := .bool true) rfl (Or.inl ⟨by kernel_rfl, fun V hV => by kernel_rfl⟩) hHeld ?_
 dsimp only [List.set_cons_succ, List.set_cons_zero]
 refine ord_oneL hF 39 (by decide) (v := .bool true) rfl (Or.inl ⟨by kernel_rfl, fun V hV => by kernel_rfl⟩) hHeld ?_
 dsimp only [List.set_cons_succ, List.set_cons_zero]
 refine ord_takeL hF 40 (by decide) (v := .agg #[.int .i64 10, .int .i64 0, .int .i64 3, .int .i64 0, .int .i64 1, .int .i64 0]) rfl (fun c a w h => hP c a w _ _ h) (Or.inl ⟨by kernel_rfl, fun V hV => ex_rowT 50 _ rfl (g43) rfl 50 [.int .i64 10, .int .i64 0, .int .i64 3, .int .i64 0, .int .i64 1, .int .i64 0] _ Tryz.underlying50 rfl (by kernel_rfl) ((HK.out.old hV).row g43 50 q0 (.tail _ (.tail _ (.tail _ (.tail _ (.head _))))))⟩) hHeld ?_
 dsimp only [List.set_cons_succ, List.set_cons_zero]
 refine ord_oneL hF 41 (by decide) (v := .agg #[.int .i64 10, .int .i64 0, .int .i64 3, .int .i64 0, .int .i64 1, .int .i64 0]) rfl (Or.inl ⟨by kernel_rfl, fun V hV => ex_rowT 50 _ rfl (g1) rfl 50 [.int .i64 10, .int .i64 0, .int .i64 3, .int .i64 0, .int .i64 1, .int .i64 0] _ Tryz.underlying50 rfl (by kernel_rfl) ((HK.out.old hV).row g1 50 q0 (.tail _ (.tail _ (.tail _ (.tail _ (.tail _ (.tail _ (.tail _ (.tail _ (.tail _ (.tail _ (.tail _ (.tail _ (.tail _ (.tail _ (.tail _ (.tail _ (.tail _ (.tail _ (.tail _ (.head _)))))))))))))))))))))⟩) hHeld ?_
 dsimp only [List.set_cons_succ, List.set_cons_zero]
 refine ord_oneL hF 42 (by decide) (v := .bool true) rfl (Or.inl ⟨by kernel_rfl, fun V hV => by kernel_rfl⟩) hHeld ?_
 dsimp only [List.set_cons_succ, List.set_cons_zero]
 refine ord_oneL hF 43 (by decide) (v := .bool true) rfl (Or.inl ⟨by kernel_rfl, fun V hV => by kernel_rfl⟩) hHeld ?_
 dsimp only [List.set_cons_succ, List.set_cons_zero]
 refine ord_oneL hF 44 (by decide) (v := .bool true) rfl (Or.inl ⟨by kernel_rfl, fun V hV => by kernel_rfl⟩) hHeld ?_
 dsimp only [List.set_cons_succ, List.set_cons_zero]
 refine ord_takeL hF 45 (by decide) (v := .agg #[.int .i64 0, .int .i64 0]) rfl (fun c a w h => hP c a w _ _ h) (Or.inl ⟨by kernel_rfl, fun V hV => ex_rowT 40 _ rfl (g44) rfl 40 [.int .i64 0, .int .i64 0] _ Tryz.underlying40 rfl (by kernel_rfl) ((HK.out.old hV).row g44 40 q12 (.tail _ (.tail _ (.tail _ (.head _)))))⟩) hHeld ?_
 dsimp only [List.set_cons_succ, List.set_cons_zero]
 refine ord_oneL hF 46 (by decide) (v := .agg #[.int .i64 0, .int .i64 0]) rfl (Or.inl ⟨by kernel_rfl, fun V hV => by kernel_rfl⟩) hHeld ?_
 dsimp only [List.set_cons_succ, List.set_cons_zero]
 refine ord_oneL hF 47 (by decide) (v := .bool true) rfl (Or.inl ⟨by kernel_rfl, fun V hV => by kernel_rfl⟩) hHeld ?_
 dsimp only [List.set_cons_succ, List.set_cons_zero]
 refine ord_oneL hF 48 (by decide) (v := .bool true) rfl (Or.inl ⟨by kernel_rfl, fun V hV => by kernel_rfl⟩) hHeld ?_
 dsimp only [List.set_cons_succ, List.set_cons_zero]
 refine ord_oneL hF 49 (by decide) (v := .bool true) rfl (Or.inl ⟨by kernel_rfl, fun V hV => by kernel_rfl⟩) hHeld ?_
 dsimp only [List.set_cons_succ, List.set_cons_zero]
 refine ord_takeL hF 50 (by decide) (v := .agg #[.int .i64 10, .int .i64 20]) rfl (fun c a w h => hP c a w _ _ h) (Or.inl ⟨by kernel_rfl, fun V hV => ex_rowT 61 _ rfl (g46) rfl 61 [.int .i64 10, .int .i64 20] _ Tryz.underlying61 rfl (by kernel_rfl) ((HK.out.old hV).row g46 61 q14 (.tail _ (.tail _ (.head _))))⟩) hHeld ?_
 dsimp only [List.set_cons_succ, List.set_cons_zero]
 refine ord_step hF 51 (by decide) rfl (fun K hK => ?_)
 go_simp
 go_at_call 30
 refine (to2_any _ _ _).mono ?_
 rintro e v51 ⟨rfl, hb51⟩
 try go_simp
 refine hK.out _ _ ?_ (fun hHeld => ?_)
 · exact hHeld.trans (hb51.mono hHeld.size)
 clear hK K
 try simp only [zz]
 refine ord_oneL hF 52 (by decide) (v := .bool true) rfl (Or.inl ⟨by kernel_rfl, fun V hV => by kernel_rfl⟩) hHeld ?_
 dsimp only [List.set_cons_succ, List.set_cons_zero]
 refine ord_oneL hF 53 (by decide) (v := .bool true) rfl (Or.inl ⟨by kernel_rfl, fun V hV => by kernel_rfl⟩) hHeld ?_
 dsimp only [List.set_cons_succ, List.set_cons_zero]
 refine ord_oneL hF 54 (by decide) (v := .bool true) rfl (Or.inl ⟨by kernel_rfl, fun V hV => by kernel_rfl⟩) hHeld ?_
 dsimp only [List.set_cons_succ, List.set_cons_zero]
 refine ord_takeL hF 55 (by decide) (v := .agg #[.int .i64 0, .int .i64 30]) rfl (fun c a w h => hP c a w _ _ h) (Or.inl ⟨by kernel_rfl, fun V hV => ex_rowT 61 _ rfl (g48) rfl 61 [.int .i64 0, .int .i64 30] _ Tryz.underlying61 rfl (by kernel_rfl) ((HK.out.old hV).row g48 61 q15 (.tail _ (.head _)))⟩) hHeld ?_
 dsimp only [List.set_cons_succ, List.set_cons_zero]
 refine ord_step hF 56 (by decide) rfl (fun K hK => ?_)
 go_simp
 go_at_call 30
 refine (to2_any _ _ _).mono ?_
 rintro e v56 ⟨rfl, hb56⟩
 try go_simp
 refine hK.out _ _ ?_ (fun hHeld => ?_)
 · exact hHeld.trans (hb56.mono hHeld.size)
 clear hK K
 try simp only [zz]
 refine ord_oneL hF 57 (by decide) (v := .bool true) rfl (Or.inl ⟨by kernel_rfl, fun V hV => by kernel_rfl⟩) hHeld ?_
 dsimp only [List.set_cons_succ, List.set_cons_zero]
 refine ord_oneL hF 58 (by decide) (v := .bool true) rfl (Or.inl ⟨by kernel_rfl, fun V hV => by kernel_rfl⟩) hHeld ?_
 dsimp only [List.set_cons_succ, List.set_cons_zero]
 refine ord_oneL hF 59 (by decide) (v := .bool true) rfl (Or.inl ⟨by kernel_rfl, fun V hV => by kernel_rfl⟩) hHeld ?_
 dsimp only [List.set_cons_succ, List.set_cons_zero]
 refine ord_takeL hF 60 (by decide) (v := .slice A50 2 c50) rfl (fun c a w h => hP c a w _ _ h) (Or.inl ⟨by kernel_rfl, fun V hV => by kernel_rfl⟩) hHeld ?_
 dsimp only [List.set_cons_succ, List.set_cons_zero]
 refine ord_step hF 61 (by decide) rfl (fun K hK => ?_)
 go_simp
 go_at_call 50
 refine (span2_any _ _ _).mono ?_
 rintro e v61 ⟨rfl, hb61⟩
 try go_simp
 refine hK.out _ _ ?_ (fun hHeld => ?_)
 · exact hHeld.trans (hb61.mono hHeld.size)
 clear hK K
 try simp only [zz]
 refine ord_step hF 62 (by decide) rfl (fun K hK => ?_)
 go_simp
 go_at_call 50
 refine (span2_any _ _ _).mono ?_
 rintro e v62 ⟨rfl, hb62⟩
 try go_simp
 refine hK.out _ _ ?_ (fun hHeld => ?_)
 · exact hHeld.trans (hb62.mono hHeld.size)
 clear hK K
 try simp only [zz]
 refine ord_step hF 63 (by decide) rfl (fun K hK => ?_)
 go_simp
 refine hK.out _ _ ?_ (fun hHeld => ?_)
 · exact hHeld.alloc hHeld.size _
 clear hK K
 try simp only [zz]
 refine ord_step hF 64 (by decide) rfl (fun K hK => ?_)
 go_simp
 go_at_call 49
 refine (sameSpans_any _ _ _ _ _ _ [(0, 2), (2, 3)] [(0, 2), (2, 3)] _ ((HK.out.old hHeld).rd A50 (spanC [(0, 2), (2, 3)]) (.tail _ (.tail _ (.head _)))) (by rw [show spanC [(0, 2), (2, 3)] = [.int .i64 0, .int .i64 2, .int .i64 2, .int .i64 3] from rfl]; exact Rd.row (t := 104) (by repeat (first | with_reducible exact Row.new _ _ _ | (refine rowAt _ _ ?_; rfl)))) rfl rfl (by decide)).mono ?_
 rintro e v64 ⟨rfl, qq64, rfl⟩
 try go_simp
 refine hK.out _ _ ?_ (fun hHeld => ?_)
 · exact hHeld.trans ((below_drewN (Below.refl _ _) qq64).mono hHeld.size)
 clear hK K
 try simp only [zz]
 refine ord_oneL hF 65 (by decide) (v := .bool true) rfl (Or.inl ⟨by kernel_rfl, fun V hV => by kernel_rfl⟩) hHeld ?_
 dsimp only [List.set_cons_succ, List.set_cons_zero]
 refine ord_oneL hF 66 (by decide) (v := .bool true) rfl (Or.inl ⟨by kernel_rfl, fun V hV => by kernel_rfl⟩) hHeld ?_
 dsimp only [List.set_cons_succ, List.set_cons_zero]
 refine ord_takeL hF 67 (by decide) (v := .slice A52 1 c52) rfl (fun c a w h => hP c a w _ _ h) (Or.inl ⟨by kernel_rfl, fun V hV => by kernel_rfl⟩) hHeld ?_
 dsimp only [List.set_cons_succ, List.set_cons_zero]
 refine ord_step hF 68 (by decide) rfl (fun K hK => ?_)
 go_simp
 go_at_call 50
 refine (span2_any _ _ _).mono ?_
 rintro e v68 ⟨rfl, hb68⟩
 try go_simp
 refine hK.out _ _ ?_ (fun hHeld => ?_)
 · exact hHeld.trans (hb68.mono hHeld.size)
 clear hK K
 try simp only [zz]
 refine ord_step hF 69 (by decide) rfl (fun K hK => ?_)
 go_simp
 refine hK.out _ _ ?_ (fun hHeld => ?_)
 · exact hHeld.alloc hHeld.size _
 clear hK K
 try simp only [zz]
 refine ord_step hF 70 (by decide) rfl (fun K hK => ?_)
 go_simp
 go_at_call 49
 refine (sameSpans_any _ _ _ _ _ _ [(1, 3)] [(1, 3)] _ ((HK.out.old hHeld).rd A52 (spanC [(1, 3)]) (.tail _ (.head _))) (by rw [show spanC [(1, 3)] = [.int .i64 1, .int .i64 3] from rfl]; exact Rd.row (t := 104) (by repeat (first | with_reducible exact Row.new _ _ _ | (refine rowAt _ _ ?_; rfl)))) rfl rfl (by decide)).mono ?_
 rintro e v70 ⟨rfl, qq70, rfl⟩
 try go_simp
 refine hK.out _ _ ?_ (fun hHeld => ?_)
 · exact hHeld.trans ((below_drewN (Below.refl _ _) qq70).mono hHeld.size)
 clear hK K
 try simp only [zz]
 refine ord_oneL hF 71 (by decide) (v := .bool true) rfl (Or.inl ⟨by kernel_rfl, fun V hV => by kernel_rfl⟩) hHeld ?_
 dsimp only [List.set_cons_succ, List.set_cons_zero]
 refine ord_oneL hF 72 (by decide) (v := .bool true) rfl (Or.inl ⟨by kernel_rfl, fun V hV => by kernel_rfl⟩) hHeld ?_
 dsimp only [List.set_cons_succ, List.set_cons_zero]
 refine ord_oneL hF 73 (by decide) (v := .string ⟨#[115, 105, 103, 110, 97, 108, 32, 49, 48, 32, 48, 32, 51, 32, 48, 32, 49, 32, 48, 10]⟩) rfl (Or.inl ⟨by kernel_rfl, fun V hV => by kernel_rfl⟩) hHeld ?_
 dsimp only [List.set_cons_succ, List.set_cons_zero]
 refine ord_oneL hF 74 (by decide) (v := .bool true) rfl (Or.inl ⟨by kernel_rfl, fun V hV => by kernel_rfl⟩) hHeld ?_
 dsimp only [List.set_cons_succ, List.set_cons_zero]
 refine ord_oneL hF 75 (by decide) (v := .bool true) rfl (Or.inl ⟨by kernel_rfl, fun V hV => by kernel_rfl⟩) hHeld ?_
 dsimp only [List.set_cons_succ, List.set_cons_zero]
 refine ord_oneL hF 76 (by decide) (v := .bool true) rfl (Or.inl ⟨by kernel_rfl, fun V hV => by kernel_rfl⟩) hHeld ?_
 dsimp only [List.set_cons_succ, List.set_cons_zero]
 refine ord_oneL hF 77 (by decide) (v := .int .i64 0) rfl (Or.inl ⟨by kernel_rfl, fun V hV => by kernel_rfl⟩) hHeld ?_
 dsimp only [List.set_cons_succ, List.set_cons_zero]
 refine ord_oneL hF 78 (by decide) (v := .bool true) rfl (Or.inl ⟨by kernel_rfl, fun V hV => by kernel_rfl⟩) hHeld ?_
 dsimp only [List.set_cons_succ, List.set_cons_zero]
 refine ord_oneL hF 79 (by decide) (v := .bool true) rfl (Or.inl ⟨by kernel_rfl, fun V hV => by kernel_rfl⟩) hHeld ?_
 dsimp only [List.set_cons_succ, List.set_cons_zero]
 refine ord_oneL hF 80 (by decide) (v := .bool true) rfl (Or.inl ⟨by kernel_rfl, fun V hV => by kernel_rfl⟩) hHeld ?_
 dsimp only [List.set_cons_succ, List.set_cons_zero]
 refine ord_oneL hF 81 (by decide) (v := .slice (some ⟨b56, o56, none⟩) 1 c56) rfl (Or.inl ⟨by kernel_rfl, fun V hV => by kernel_rfl⟩) hHeld ?_
 dsimp only [List.set_cons_succ, List.set_cons_zero]
 refine ord_oneL hF 82 (by decide) (v := .int .i64 1) rfl (Or.inl ⟨by kernel_rfl, fun V hV => by kernel_rfl⟩) hHeld ?_
 dsimp only [List.set_cons_succ, List.set_cons_zero]
 refine ord_oneL hF 83 (by decide) (v := .bool true) rfl (Or.inl ⟨by kernel_rfl, fun V hV => by kernel_rfl⟩) hHeld ?_
 dsimp only [List.set_cons_succ, List.set_cons_zero]
 refine ord_oneL hF 84 (by decide) (v := .bool true) rfl (Or.inl ⟨by kernel_rfl, fun V hV => by kernel_rfl⟩) hHeld ?_
 dsimp only [List.set_cons_succ, List.set_cons_zero]
 refine ord_oneL hF 85 (by decide) (v := .bool true) rfl (Or.inl ⟨by kernel_rfl, fun V hV => by kernel_rfl⟩) hHeld ?_
 dsimp only [List.set_cons_succ, List.set_cons_zero]
 refine ord_takeL hF 86 (by decide) (v := .slice (some ⟨b56, o56, none⟩) 1 c56) rfl (fun c a w h => hP c a w _ _ h) (Or.inl ⟨by kernel_rfl, fun V hV => by kernel_rfl⟩) hHeld ?_
 dsimp only [List.set_cons_succ, List.set_cons_zero]
 refine ord_takeL hF 87 (by decide) (v := .pointer (some ⟨b56, o56, none⟩)) rfl (fun c a w h => hP c a w _ _ h) (Or.inl ⟨by kernel_rfl, fun V hV => by kernel_rfl⟩) hHeld ?_
 dsimp only [List.set_cons_succ, List.set_cons_zero]
 refine ord_takeL hF 88 (by decide) (v := .agg #[.int .i64 10, .int .i64 0, .int .i64 3, .int .i64 0, .int .i64 1, .int .i64 0]) rfl (fun c a w h => hP c a w _ _ h) (Or.inl ⟨by kernel_rfl, fun V hV => ex_Signal _ rfl b56 o56 rfl (HC6.out V hV).1 (HC6.out V hV).2.1 (HC6.out V hV).2.2.1 (HC6.out V hV).2.2.2.1 (HC6.out V hV).2.2.2.2.1 (HC6.out V hV).2.2.2.2.2⟩) hHeld ?_
 dsimp only [List.set_cons_succ, List.set_cons_zero]
 refine ord_oneL hF 89 (by decide) (v := .agg #[.int .i64 10, .int .i64 0, .int .i64 3, .int .i64 0, .int .i64 1, .int .i64 0]) rfl (Or.inl ⟨by kernel_rfl, fun V hV => ex_rowT 50 _ rfl (g1) rfl 50 [.int .i64 10, .int .i64 0, .int .i64 3, .int .i64 0, .int .i64 1, .int .i64 0] _ Tryz.underlying50 rfl (by kernel_rfl) ((HK.out.old hV).row g1 50 q0 (.tail _ (.tail _ (.tail _ (.tail _ (.tail _ (.tail _ (.tail _ (.tail _ (.tail _ (.tail _ (.tail _ (.tail _ (.tail _ (.tail _ (.tail _ (.tail _ (.tail _ (.tail _ (.tail _ (.head _)))))))))))))))))))))⟩) hHeld ?_
 dsimp only [List.set_cons_succ, List.set_cons_zero]
 refine ord_oneL hF 90 (by decide) (v := .bool true) rfl (Or.inl ⟨by kernel_rfl, fun V hV => by kernel_rfl⟩) hHeld ?_
 dsimp only [List.set_cons_succ, List.set_cons_zero]
 refine ord_oneL hF 91 (by decide) (v := .bool true) rfl (Or.inl ⟨by kernel_rfl, fun V hV => by kernel_rfl⟩) hHeld ?_
 dsimp only [List.set_cons_succ, List.set_cons_zero]
 refine ord_oneL hF 92 (by decide) (v := .bool true) rfl (Or.inl ⟨by kernel_rfl, fun V hV => by kernel_rfl⟩) hHeld ?_
 dsimp only [List.set_cons_succ, List.set_cons_zero]
 refine ord_takeL hF 93 (by decide) (v := .agg #[.int .i64 11, .int .i64 0, .int .i64 2, .int .i64 0, .int .i64 1, .int .i64 0]) rfl (fun c a w h => hP c a w _ _ h) (Or.inl ⟨by kernel_rfl, fun V hV => ex_rowT 50 _ rfl (g59) rfl 50 [.int .i64 11, .int .i64 0, .int .i64 2, .int .i64 0, .int .i64 1, .int .i64 0] _ Tryz.underlying50 rfl (by kernel_rfl) ((HK.out.old hV).row g59 50 q16 (.head _))⟩) hHeld ?_
 dsimp only [List.set_cons_succ, List.set_cons_zero]
 refine ord_step hF 94 (by decide) rfl (fun K hK => ?_)
 go_simp
 go_at_call 42
 refine (of2_any _ _ _ _).mono ?_
 rintro e v94 ⟨rfl, hb94⟩
 try go_simp
 refine hK.out _ _ ?_ (fun hHeld => ?_)
 · exact hHeld.trans (hb94.mono hHeld.size)
 clear hK K
 try simp only [zz]
 refine ord_oneL hF 95 (by decide) (v := .bool true) rfl (Or.inl ⟨by kernel_rfl, fun V hV => by kernel_rfl⟩) hHeld ?_
 dsimp only [List.set_cons_succ, List.set_cons_zero]
 refine ord_oneL hF 96 (by decide) (v := .bool true) rfl (Or.inl ⟨by kernel_rfl, fun V hV => by kernel_rfl⟩) hHeld ?_
 dsimp only [List.set_cons_succ, List.set_cons_zero]
 refine ord_oneL hF 97 (by decide) (v := .bool true) rfl (Or.inl ⟨by kernel_rfl, fun V hV => by kernel_rfl⟩) hHeld ?_
 dsimp only [List.set_cons_succ, List.set_cons_zero]
 refine ord_done hF ?_
 exact hQ _ _ _ _ _ _ _ _ _ _ _ _ _ _ _ _ _ _ _ _ _ _ _ _ _ _ _ _ _ _ _ _ _ _ _ _ _ _ _ _ _ _ _ _ _ _ _ _ _ _ _ _ _ _ _ _ _ _ _ _ _ _ _ _ _ _ _ _ _ _ _ _ _ _ _ _ _ _ _ _ _ _ _ _ _ _ _ _ _ _ _ _ _ _ _ _ _ _ hHeld
end Go.Proofs.YtgbkblbfgknheaaGreatDoor
