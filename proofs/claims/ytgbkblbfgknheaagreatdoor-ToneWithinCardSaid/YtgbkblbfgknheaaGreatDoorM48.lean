import Derived.Test.YtgbkblbfgknheaaGreatDoorM46
import Derived.Test.YtgbkblbfgknheaaGreatDoorM47
namespace Go.Proofs.YtgbkblbfgknheaaGreatDoor
set_option linter.all false
open Go.RowKit Go.Fl
set_option maxRecDepth 100000 in
set_option maxHeartbeats 16000000 in
theorem within_law (rs rf rl ra rb a b c d x y g8 y16 z16 l0 l1 l2 nz o0 o1 o2 o3 n nf k1 lag k2 k3 k4 start low k5 k6 high k7 k8 k9 mid aL aH bV cV dL dH fL fH p0 p1 p2 p3 u0 u1 u2 u3 m : Int) (FL OF : ByteArray) (FLs : List Int) (zF zO : Bool) (w : World) (hA : AwT w) (hRr : ∀ W, Calls Tryz.prog 25 #[.agg #[.int .i64 rs, .int .i64 rf, .int .i64 rl, .int .i64 ra, .int .i64 rb]] W fun e w' => e = .returned (.int .i64 0) ∧ Below W.heap.size W w') (hNr : ∀ W, Calls Tryz.prog 17 #[.agg #[.int .i64 1, .int .i64 0, .int .i64 c, .int .i64 d, .int .i64 x, .int .i64 y], .int .i64 8000] W fun e w' => e = .returned (.bool true) ∧ Below W.heap.size W w') (hCs : ∀ W, Calls Tryz.prog 26 #[.agg #[.int .i64 a, .int .i64 b, .int .i64 c, .int .i64 d, .int .i64 x, .int .i64 y]] W fun e w' => e = .returned (.int .i64 0) ∧ Below W.heap.size W w') (hTd : ∀ W, Calls Tryz.prog 27 #[.agg #[.int .i64 rs, .int .i64 rf, .int .i64 rl, .int .i64 ra, .int .i64 rb], .agg #[.int .i64 a, .int .i64 b, .int .i64 c, .int .i64 d, .int .i64 x, .int .i64 y]] W fun e w' => e = .returned (.tuple #[.int .i64 n, .string FL, .int .i64 0]) ∧ Below W.heap.size W w') (hq : FL.toList.isEmpty = zF) (hn1 : nf ≤ n) (hn2 : n ≤ rf) (hn0 : zF = false → n = 0) (e0 : IntKind.i64.wrap (-rf) = nf) (e1 : IntKind.i64.wrap (g8) = g8) (e2 : g8.tmod 16 = k1) (e3 : wrap64 (1 + k1) = lag) (e4 : IntKind.i64.wrap (y16) = y16) (e5 : IntKind.i64.wrap (2 * rf) = k2) (e6 : IntKind.i64.wrap (k2 + 1) = k3) (e7 : k3 ≠ 0) (e8 : y16.tmod k3 = k4) (e9 : IntKind.i64.wrap (k4 - rf) = start) (e10 : IntKind.i64.wrap (l0) = l0) (e11 : l0.tmod 1001 = low) (e12 : IntKind.i64.wrap (l1) = l1) (e13 : wrap64 (1001 - low) = k5) (e14 : k5 ≠ 0) (e15 : l1.tmod k5 = k6) (e16 : wrap64 (low + k6) = high) (e17 : IntKind.i64.wrap (l2) = l2) (e18 : wrap64 (high - low) = k7) (e19 : wrap64 (k7 + 1) = k8) (e20 : k8 ≠ 0) (e21 : l2.tmod k8 = k9) (e22 : wrap64 (low + k9) = mid) (e23 : IntKind.i64.wrap (nz) = nz) (hFo : ∀ As cs W, Rd W As [.int .i64 a, .int .i64 b, .int .i64 c, .int .i64 d, .int .i64 x, .int .i64 y, .int .i64 a, .int .i64 b, .int .i64 c, .int .i64 d, .int .i64 x, .int .i64 y, .int .i64 a, .int .i64 b, .int .i64 c, .int .i64 d, .int .i64 x, .int .i64 y] → Calls Tryz.prog 28 #[.agg #[.int .i64 rs, .int .i64 rf, .int .i64 rl, .int .i64 ra, .int .i64 rb], .int .i64 lag, .int .i64 start, .slice As 3 cs] W fun e w' => ∃ Af cf, e = .returned (.tuple #[.slice Af 3 cf, .int .i64 0]) ∧ Rd w' Af (ints FLs) ∧ Below W.heap.size W w') (hF3 : FLs.length = 3) (hFs : zF = false → ∀ v ∈ FLs, v = start) (hFt : zF = true → ∀ v ∈ FLs, min start n ≤ v ∧ v ≤ max start n) (hL1 : ∀ W, Calls Tryz.prog 29 #[.agg #[.int .i64 rs, .int .i64 rf, .int .i64 rl, .int .i64 ra, .int .i64 rb], .agg #[.int .i64 a, .int .i64 b, .int .i64 c, .int .i64 d, .int .i64 x, .int .i64 y], .agg #[.int .i64 low, .int .i64 high]] W fun e w' => e = .returned (.tuple #[.agg #[.int .i64 aL, .int .i64 aH], .int .i64 0]) ∧ Below W.heap.size W w') (hL2 : ∀ W, Calls Tryz.prog 29 #[.agg #[.int .i64 rs, .int .i64 rf, .int .i64 rl, .int .i64 ra, .int .i64 rb], .agg #[.int .i64 a, .int .i64 b, .int .i64 c, .int .i64 d, .int .i64 x, .int .i64 y], .agg #[.int .i64 mid, .int .i64 mid]] W fun e w' => e = .returned (.tuple #[.agg #[.int .i64 bV, .int .i64 bV], .int .i64 0]) ∧ Below W.heap.size W w') (hL3 : ∀ W, Calls Tryz.prog 29 #[.agg #[.int .i64 rs, .int .i64 rf, .int .i64 rl, .int .i64 ra, .int .i64 rb], .agg #[.int .i64 a, .int .i64 b, .int .i64 c, .int .i64 d, .int .i64 x, .int .i64 y], .agg #[.int .i64 0, .int .i64 0]] W fun e w' => e = .returned (.tuple #[.agg #[.int .i64 cV, .int .i64 cV], .int .i64 0]) ∧ Below W.heap.size W w') (hN1 : ∀ W, Calls Tryz.prog 31 #[.agg #[.int .i64 rs, .int .i64 rf, .int .i64 rl, .int .i64 ra, .int .i64 rb], .agg #[.int .i64 a, .int .i64 b, .int .i64 c, .int .i64 d, .int .i64 x, .int .i64 y], .int .i64 nz] W fun e w' => e = .returned (.tuple #[.agg #[.int .i64 dL, .int .i64 dH], .int .i64 0]) ∧ Below W.heap.size W w') (hN2 : ∀ W, Calls Tryz.prog 31 #[.agg #[.int .i64 rs, .int .i64 rf, .int .i64 rl, .int .i64 ra, .int .i64 rb], .agg #[.int .i64 a, .int .i64 b, .int .i64 c, .int .i64 d, .int .i64 x, .int .i64 y], .int .i64 (wrap64 (2 * nz))] W fun e w' => e = .returned (.tuple #[.agg #[.int .i64 fL, .int .i64 fH], .int .i64 0]) ∧ Below W.heap.size W w') (hc1 : aL ≤ aH) (hc2 : aL ≤ bV) (hc3 : bV ≤ aH) (hc4 : fL ≤ dL) (hc5 : dL ≤ dH) (hc6 : dH ≤ fH) (hc7 : zF = true → cV = n ∧ dL ≤ n ∧ n ≤ dH) (hO0 : ∀ g gn W, Row W g 69 [.int .u8 g8, .int .u16 y16, .int .u16 z16, .int .u16 l0, .int .u16 l1, .int .u16 l2, .int .u8 nz, .int .i8 o0, .int .i8 o1, .int .i8 o2, .int .i8 o3] → Row W gn 3 [.int .i64 nz] → Calls Tryz.prog 32 #[.int .i64 0, .pointer (some ⟨g, 0, none⟩), .pointer (some ⟨gn, 0, none⟩)] W fun e w' => e = .returned (.int .i64 p0) ∧ Below W.heap.size W w') (hO1 : ∀ g gn W, Row W g 69 [.int .u8 g8, .int .u16 y16, .int .u16 z16, .int .u16 l0, .int .u16 l1, .int .u16 l2, .int .u8 nz, .int .i8 o0, .int .i8 o1, .int .i8 o2, .int .i8 o3] → Row W gn 3 [.int .i64 nz] → Calls Tryz.prog 32 #[.int .i64 1, .pointer (some ⟨g, 0, none⟩), .pointer (some ⟨gn, 0, none⟩)] W fun e w' => e = .returned (.int .i64 p1) ∧ Below W.heap.size W w') (hO2 : ∀ g gn W, Row W g 69 [.int .u8 g8, .int .u16 y16, .int .u16 z16, .int .u16 l0, .int .u16 l1, .int .u16 l2, .int .u8 nz, .int .i8 o0, .int .i8 o1, .int .i8 o2, .int .i8 o3] → Row W gn 3 [.int .i64 nz] → Calls Tryz.prog 32 #[.int .i64 2, .pointer (some ⟨g, 0, none⟩), .pointer (some ⟨gn, 0, none⟩)] W fun e w' => e = .returned (.int .i64 p2) ∧ Below W.heap.size W w') (hO3 : ∀ g gn W, Row W g 69 [.int .u8 g8, .int .u16 y16, .int .u16 z16, .int .u16 l0, .int .u16 l1, .int .u16 l2, .int .u8 nz, .int .i8 o0, .int .i8 o1, .int .i8 o2, .int .i8 o3] → Row W gn 3 [.int .i64 nz] → Calls Tryz.prog 32 #[.int .i64 3, .pointer (some ⟨g, 0, none⟩), .pointer (some ⟨gn, 0, none⟩)] W fun e w' => e = .returned (.int .i64 p3) ∧ Below W.heap.size W w') (hP1 : ∀ W, Calls Tryz.prog 21 #[.agg #[.int .i64 c, .int .i64 d], .agg #[.int .i64 p0, .int .i64 p1]] W fun e w' => e = .returned (.agg #[.int .i64 u0, .int .i64 u1]) ∧ Below W.heap.size W w') (hP2 : ∀ W, Calls Tryz.prog 21 #[.agg #[.int .i64 x, .int .i64 y], .agg #[.int .i64 p2, .int .i64 p3]] W fun e w' => e = .returned (.agg #[.int .i64 u2, .int .i64 u3]) ∧ Below W.heap.size W w') (hT2 : ∀ W, Calls Tryz.prog 27 #[.agg #[.int .i64 rs, .int .i64 rf, .int .i64 rl, .int .i64 ra, .int .i64 rb], .agg #[.int .i64 a, .int .i64 b, .int .i64 u0, .int .i64 u1, .int .i64 u2, .int .i64 u3]] W fun e w' => e = .returned (.tuple #[.int .i64 m, .string OF, .int .i64 0]) ∧ Below W.heap.size W w') (hq2 : OF.toList.isEmpty = zO) (hm : zO = true → dL ≤ m ∧ m ≤ dH) : Calls Tryz.prog 5 #[.agg #[.int .i64 rs, .int .i64 rf, .int .i64 rl, .int .i64 ra, .int .i64 rb], .agg #[.int .i64 a, .int .i64 b, .int .i64 c, .int .i64 d, .int .i64 x, .int .i64 y], .agg #[.int .u8 g8, .int .u16 y16, .int .u16 z16, .int .u16 l0, .int .u16 l1, .int .u16 l2, .int .u8 nz, .int .i8 o0, .int .i8 o1, .int .i8 o2, .int .i8 o3]] w fun e w' => e = .returned (.bool true) ∧ Below w.heap.size w w' := by
 have HK : Hid (KpT w [((w.heap.size + 1 + 1), 69, (xh11 g8 y16 z16 l0 l1 l2 nz o0 o1 o2 o3)), ((w.heap.size + 1), 42, (i6 a b c d x y)), (w.heap.size, 63, (r5 rs rf rl ra rb))] [] (((w.alloc (.cells #[.int .i64 rs, .int .i64 rf, .int .i64 rl, .int .i64 ra, .int .i64 rb] 63)).alloc (.cells #[.int .i64 a, .int .i64 b, .int .i64 c, .int .i64 d, .int .i64 x, .int .i64 y] 42)).alloc (.cells #[.int .u8 g8, .int .u16 y16, .int .u16 z16, .int .u16 l0, .int .u16 l1, .int .u16 l2, .int .u8 nz, .int .i8 o0, .int .i8 o1, .int .i8 o2, .int .i8 o3] 69))) := Lib.hid (KpT.cons (KpT.cons (KpT.cons (KpT.old (V := w) ⟨hA, fun r h => (List.not_mem_nil h).elim, fun r h => (List.not_mem_nil h).elim, Below.refl _ _⟩ ((((Below.refl _ _).alloc (Nat.le_refl _) _).alloc (by simp) _).alloc (by simp only [World.size_alloc]; omega) _)) (((Row.new w 63 [.int .i64 rs, .int .i64 rf, .int .i64 rl, .int .i64 ra, .int .i64 rb]).alloc _).alloc _)) (row2.alloc _)) row3)
 replace hRr := Lib.hid hRr
 replace hNr := Lib.hid hNr
 replace hCs := Lib.hid hCs
 replace hTd := Lib.hid hTd
 replace hq := Lib.hid hq
 replace hn1 := Lib.hid hn1
 replace hn2 := Lib.hid hn2
 replace hn0 := Lib.hid hn0
 replace e0 := Lib.hid e0
 replace e1 := Lib.hid e1
 replace e2 := Lib.hid e2
 replace e3 := Lib.hid e3
 replace e4 := Lib.hid e4
 replace e5 := Lib.hid e5
 replace e6 := Lib.hid e6
 replace e7 := Lib.hid e7
 replace e8 := Lib.hid e8
 replace e9 := Lib.hid e9
 replace e10 := Lib.hid e10
 replace e11 := Lib.hid e11
 replace e12 := Lib.hid e12
 replace e13 := Lib.hid e13
 replace e14 := Lib.hid e14
 replace e15 := Lib.hid e15
 replace e16 := Lib.hid e16
 replace e17 := Lib.hid e17
 replace e18 := Lib.hid e18
 replace e19 := Lib.hid e19
 replace e20 := Lib.hid e20
 replace e21 := Lib.hid e21
 replace e22 := Lib.hid e22
 replace e23 := Lib.hid e23
 replace hFo := Lib.hid hFo
 replace hF3 := Lib.hid hF3
 replace hFs := Lib.hid hFs
 replace hFt := Lib.hid hFt
 replace hL1 := Lib.hid hL1
 replace hL2 := Lib.hid hL2
 replace hL3 := Lib.hid hL3
 replace hN1 := Lib.hid hN1
 replace hN2 := Lib.hid hN2
 replace hc1 := Lib.hid hc1
 replace hc2 := Lib.hid hc2
 replace hc3 := Lib.hid hc3
 replace hc4 := Lib.hid hc4
 replace hc5 := Lib.hid hc5
 replace hc6 := Lib.hid hc6
 replace hc7 := Lib.hid hc7
 replace hO0 := Lib.hid hO0
 replace hO1 := Lib.hid hO1
 replace hO2 := Lib.hid hO2
 replace hO3 := Lib.hid hO3
 replace hP1 := Lib.hid hP1
 replace hP2 := Lib.hid hP2
 replace hT2 := Lib.hid hT2
 replace hq2 := Lib.hid hq2
 replace hm := Lib.hid hm
 clear hA
 go_enter Tryz.func5, Tryz.ntmps5
 go_upto_region 1 with fail
 refine genT (fun V => KpT w [((w.heap.size + 1 + 1), 69, (xh11 g8 y16 z16 l0 l1 l2 nz o0 o1 o2 o3)), ((w.heap.size + 1), 42, (i6 a b c d x y)), (w.heap.size, 63, (r5 rs rf rl ra rb))] [] V) HK.out ?_
 clear HK
 intro wc s0
 have HK := Lib.hid s0
 clear s0
 go_cut [56] from 35 to 55 (fun s56 wx => s56 = .bool false ∧ Hid (KpT w [((w.heap.size + 1 + 1), 69, (xh11 g8 y16 z16 l0 l1 l2 nz o0 o1 o2 o3)), ((w.heap.size + 1), 42, (i6 a b c d x y)), (w.heap.size, 63, (r5 rs rf rl ra rb))] [] wx))
 case first =>
  refine wp_region_held_drew (S := fun V => Below wc.heap.size wc V) (by kernel_rfl) ?_ (fun hHeld => ?_)
  · exact (Below.refl _ _).drew
  refine st1 0 (by kernel_rfl) rfl (fun K hK => ?_)
  go_simp
  go_at_call 7
  refine (awake_ok _ (HK.out.old hHeld).1).mono ?_
  rintro e v0 ⟨rfl, hb0⟩
  have hz0 := hb0.size
  try simp only [World.size_alloc, size_drewT] at hz0
  try go_simp
  refine hK.out _ _ ?_ (fun hHeld => ?_)
  · exact hHeld.trans (hb0.mono hHeld.size)
  clear hK K
  try simp only [zz]
  refine tk 1 36 ?_ rfl (by kernel_rfl) (fun _ _ _ h => h) (by kernel_rfl) ?_ hHeld ?_
  rotate_left
  · intro w1 hSw; (try dsimp only at hSw); go_simp <;> with_reducible rfl
  try simp only [zz]
  refine tk 2 37 ?_ rfl (by kernel_rfl) (fun _ _ _ h => h) (by kernel_rfl) ?_ hHeld ?_
  rotate_left
  · intro w1 hSw; (try dsimp only at hSw); go_simp <;> with_reducible rfl
  try simp only [zz]
  refine tk 3 38 (.agg #[.int .i64 rs, .int .i64 rf, .int .i64 rl, .int .i64 ra, .int .i64 rb]) rfl (by kernel_rfl) (fun _ _ _ h => h) (by kernel_rfl) (fun V hV => ex_rowT 63 _ rfl (w.heap.size) rfl 63 [.int .i64 rs, .int .i64 rf, .int .i64 rl, .int .i64 ra, .int .i64 rb] _ Tryz.underlying63 rfl (by kernel_rfl) ((HK.out.old hV).row w.heap.size 63 (r5 rs rf rl ra rb) (.tail _ (.tail _ (.head _))))) hHeld ?_
  try simp only [zz]
  refine st1 4 (by kernel_rfl) rfl (fun K hK => ?_)
  go_simp
  go_at_call 25
  refine (hRr.out _).mono ?_
  rintro e v4 ⟨rfl, hb4⟩
  have hz4 := hb4.size
  try simp only [World.size_alloc, size_drewT] at hz4
  try go_simp
  refine hK.out _ _ ?_ (fun hHeld => ?_)
  · exact hHeld.trans (hb4.mono hHeld.size)
  clear hK K
  try simp only [zz]
  refine tk 5 40 ?_ rfl (by kernel_rfl) (fun _ _ _ h => h) (by kernel_rfl) ?_ hHeld ?_
  rotate_left
  · intro w1 hSw; (try dsimp only at hSw); go_simp <;> with_reducible rfl
  try simp only [zz]
  refine tk 6 41 ?_ rfl (by kernel_rfl) (fun _ _ _ h => h) (by kernel_rfl) ?_ hHeld ?_
  rotate_left
  · intro w1 hSw; (try dsimp only at hSw); go_simp <;> with_reducible rfl
  try simp only [zz]
  refine tk 7 42 ?_ rfl (by kernel_rfl) (fun _ _ _ h => h) (by kernel_rfl) ?_ hHeld ?_
  rotate_left
  · intro w1 hSw; (try dsimp only at hSw); go_simp <;> with_reducible rfl
  try simp only [zz]
  refine tk 9 44 ?_ rfl (by kernel_rfl) (fun _ _ _ h => h) (by kernel_rfl) ?_ hHeld ?_
  rotate_left
  · intro w1 hSw; (try dsimp only at hSw); go_simp <;> with_reducible rfl
  try simp only [zz]
  refine tk 10 45 (.agg #[.int .i64 c, .int .i64 d]) rfl (by kernel_rfl) (fun _ _ _ h => h) (by kernel_rfl) (fun V hV => ex_Gauss _ rfl ((w.heap.size + 1)) 2 rfl (((HK.out.old hV).row (w.heap.size + 1) 42 (i6 a b c d x y) (.tail _ (.head _))).cell 2) (((HK.out.old hV).row (w.heap.size + 1) 42 (i6 a b c d x y) (.tail _ (.head _))).cell 3)) hHeld ?_
  try simp only [zz]
  refine tk 11 46 ?_ rfl (by kernel_rfl) (fun _ _ _ h => h) (by kernel_rfl) ?_ hHeld ?_
  rotate_left
  · intro w1 hSw; (try dsimp only at hSw); go_simp <;> with_reducible rfl
  try simp only [zz]
  refine tk 12 47 (.agg #[.int .i64 x, .int .i64 y]) rfl (by kernel_rfl) (fun _ _ _ h => h) (by kernel_rfl) (fun V hV => ex_Gauss _ rfl ((w.heap.size + 1)) 4 rfl (((HK.out.old hV).row (w.heap.size + 1) 42 (i6 a b c d x y) (.tail _ (.head _))).cell 4) (((HK.out.old hV).row (w.heap.size + 1) 42 (i6 a b c d x y) (.tail _ (.head _))).cell 5)) hHeld ?_
  try simp only [zz]
  refine st1 8 (by kernel_rfl) rfl (fun K hK => ?_)
  go_simp
  go_at_call 18
  refine (at2_any _ _ _).mono ?_
  rintro e v8 ⟨rfl, hb8⟩
  have hz8 := hb8.size
  try simp only [World.size_alloc, size_drewT] at hz8
  try go_simp
  refine hK.out _ _ ?_ (fun hHeld => ?_)
  · exact hHeld.trans (hb8.mono hHeld.size)
  clear hK K
  try simp only [zz]
  refine tk 13 48 ?_ rfl (by kernel_rfl) (fun _ _ _ h => h) (by kernel_rfl) ?_ hHeld ?_
  rotate_left
  · intro w1 hSw; (try dsimp only at hSw); go_simp <;> with_reducible rfl
  try simp only [zz]
  refine st1 14 (by kernel_rfl) rfl (fun K hK => ?_)
  go_simp
  go_at_call 17
  refine (hNr.out _).mono ?_
  rintro e v14 ⟨rfl, hb14⟩
  have hz14 := hb14.size
  try simp only [World.size_alloc, size_drewT] at hz14
  try go_simp
  refine hK.out _ _ ?_ (fun hHeld => ?_)
  · exact hHeld.trans (hb14.mono hHeld.size)
  clear hK K
  try simp only [zz]
  refine tk 15 50 ?_ rfl (by kernel_rfl) (fun _ _ _ h => h) (by kernel_rfl) ?_ hHeld ?_
  rotate_left
  · intro w1 hSw; (try dsimp only at hSw); go_simp <;> with_reducible rfl
  try simp only [zz]
  refine tk 16 51 ?_ rfl (by kernel_rfl) (fun _ _ _ h => h) (by kernel_rfl) ?_ hHeld ?_
  rotate_left
  · intro w1 hSw; (try dsimp only at hSw); go_simp <;> with_reducible rfl
  try simp only [zz]
  refine tk 17 52 ?_ rfl (by kernel_rfl) (fun _ _ _ h => h) (by kernel_rfl) ?_ hHeld ?_
  rotate_left
  · intro w1 hSw; (try dsimp only at hSw); go_simp <;> with_reducible rfl
  try simp only [zz]
  refine tk 18 53 (.agg #[.int .i64 a, .int .i64 b, .int .i64 c, .int .i64 d, .int .i64 x, .int .i64 y]) rfl (by kernel_rfl) (fun _ _ _ h => h) (by kernel_rfl) (fun V hV => ex_rowT 42 _ rfl ((w.heap.size + 1)) rfl 42 [.int .i64 a, .int .i64 b, .int .i64 c, .int .i64 d, .int .i64 x, .int .i64 y] _ Tryz.underlying42 rfl (by kernel_rfl) ((HK.out.old hV).row (w.heap.size + 1) 42 (i6 a b c d x y) (.tail _ (.head _)))) hHeld ?_
  try simp only [zz]
  refine st1 19 (by kernel_rfl) rfl (fun K hK => ?_)
  go_simp
  go_at_call 26
  refine (hCs.out _).mono ?_
  rintro e v19 ⟨rfl, hb19⟩
  have hz19 := hb19.size
  try simp only [World.size_alloc, size_drewT] at hz19
  try go_simp
  refine hK.out _ _ ?_ (fun hHeld => ?_)
  · exact hHeld.trans (hb19.mono hHeld.size)
  clear hK K
  try simp only [zz]
  refine tk 20 55 ?_ rfl (by kernel_rfl) (fun _ _ _ h => h) (by kernel_rfl) ?_ hHeld ?_
  rotate_left
  · intro w1 hSw; (try dsimp only at hSw); go_simp <;> with_reducible rfl
  try simp only [zz]
  refine tk 21 56 ?_ rfl (by kernel_rfl) (fun _ _ _ h => h) (by kernel_rfl) ?_ hHeld ?_
  rotate_left
  · intro w1 hSw; (try dsimp only at hSw); go_simp <;> with_reducible rfl
  try simp only [zz]
  refine wpAnyH_done (by kernel_rfl) ?_ _
  go_wp2_with fail
  go_meet
  exact ⟨rfl, Lib.hid (HK.out.old hHeld)⟩
 case rest =>
 clear HK
 obtain ⟨rfl, HK⟩ := hcut
 go_upto_region 3 with fail
 go_cut [7, 8, 9] from 58 to 64 (fun s7 s8 s9 wx => s7 = .int .i64 n ∧ s8 = .string FL ∧ s9 = .int .i64 0 ∧ Hid (KpT w [((w.heap.size + 1 + 1), 69, (xh11 g8 y16 z16 l0 l1 l2 nz o0 o1 o2 o3)), ((w.heap.size + 1), 42, (i6 a b c d x y)), (w.heap.size, 63, (r5 rs rf rl ra rb))] [] wx))
 case first =>
  have HV := HK
  go_wp2_with (first
   | (refine wpList_load_row rfl 63 _ rfl w.heap.size rfl 63 #[.int .i64 rs, .int .i64 rf, .int .i64 rl, .int .i64 ra, .int .i64 rb] (0, 0) _ (HV.out.row w.heap.size 63 (r5 rs rf rl ra rb) (.tail _ (.tail _ (.head _)))) Tryz.underlying63 rfl ?_ ?_; (kernel_rfl))
   | (refine wpList_load_row rfl 42 _ rfl (w.heap.size + 1) rfl 42 #[.int .i64 a, .int .i64 b, .int .i64 c, .int .i64 d, .int .i64 x, .int .i64 y] (0, 0) _ (HV.out.row (w.heap.size + 1) 42 (i6 a b c d x y) (.tail _ (.head _))) Tryz.underlying42 rfl ?_ ?_; (kernel_rfl))
   | (go_at_call 27; refine (hTd.out _).mono ?_; rintro e w2 ⟨rfl, hb⟩; replace HV := Lib.hid (HV.out.old hb); clear hb))
  go_meet
  exact ⟨rfl, rfl, rfl, HV⟩
 case rest =>
 clear HK
 obtain ⟨rfl, rfl, rfl, HK⟩ := hcut
 go_upto_region 4 with fail
 go_cut [87] from 65 to 86 (fun s87 wx => s87 = .bool false ∧ Hid (KpT w [((w.heap.size + 1 + 1), 69, (xh11 g8 y16 z16 l0 l1 l2 nz o0 o1 o2 o3)), ((w.heap.size + 1), 42, (i6 a b c d x y)), (w.heap.size, 63, (r5 rs rf rl ra rb))] [] wx))
 case first =>
  have c1 := show _ = some (Value.int .i64 rf) from ((HK.out.row w.heap.size 63 (r5 rs rf rl ra rb) (.tail _ (.tail _ (.head _)))).cell 1)
  have z0 := e0.out
  have z1 : ¬ n < nf := by have := hn1.out; omega
  have z2 : ¬ rf < n := by have := hn2.out; omega
  cases zF
  case false =>
   have q0 := hq.out
   have z3 : (n != 0) = false := by have h := hn0.out rfl; simpa using h
   go_wp2_with fail
   all_goals (go_meet; exact ⟨rfl, HK⟩)
  case true =>
   have q0 := hq.out
   go_wp2_with fail
   all_goals (go_meet; exact ⟨rfl, HK⟩)
 case rest =>
 clear HK
 obtain ⟨rfl, HK⟩ := hcut
 go_upto_region 6 with fail
 go_cut [10] from 88 to 92 (fun s10 wx => s10 = .int .i64 lag ∧ Hid (KpT w [((w.heap.size + 1 + 1), 69, (xh11 g8 y16 z16 l0 l1 l2 nz o0 o1 o2 o3)), ((w.heap.size + 1), 42, (i6 a b c d x y)), (w.heap.size, 63, (r5 rs rf rl ra rb))] [] wx))
 case first =>
  have HV := HK
  have c0 := show _ = some (Value.int .u8 g8) from ((HK.out.row (w.heap.size + 1 + 1) 69 (xh11 g8 y16 z16 l0 l1 l2 nz o0 o1 o2 o3) (.head _)).cell 0)
  have z1 := e1.out
  go_wp2_with fail
  go_meet
  exact ⟨congrArg (Value.int .i64) (show wrap64 (1 + g8.tmod 16) = lag by rw [e2.out, e3.out]), HV⟩
 case rest =>
 clear HK
 obtain ⟨rfl, HK⟩ := hcut
 go_upto_region 7 with fail
 go_cut [11] from 93 to 103 (fun s11 wx => s11 = .int .i64 start ∧ Hid (KpT w [((w.heap.size + 1 + 1), 69, (xh11 g8 y16 z16 l0 l1 l2 nz o0 o1 o2 o3)), ((w.heap.size + 1), 42, (i6 a b c d x y)), (w.heap.size, 63, (r5 rs rf rl ra rb))] [] wx))
 case first =>
  refine wp_region_held_drew (S := fun V => Below wc.heap.size wc V) (by kernel_rfl) ?_ (fun hHeld => ?_)
  · exact (Below.refl _ _).drew
  refine tk 0 93 ?_ rfl (by kernel_rfl) (fun _ _ _ h => h) (by kernel_rfl) ?_ hHeld ?_
  rotate_left
  · intro w1 hSw; (try dsimp only at hSw); go_simp <;> with_reducible rfl
  try simp only [zz]
  refine tk 1 94 ?_ rfl (by kernel_rfl) (fun _ _ _ h => h) (by kernel_rfl) ?_ hHeld ?_
  rotate_left
  · intro w1 hSw; (try dsimp only at hSw); have cc := show _ = some (Value.int .u16 y16) from (((HK.out.old hSw).row (w.heap.size + 1 + 1) 69 (xh11 g8 y16 z16 l0 l1 l2 nz o0 o1 o2 o3) (.head _)).cell 1); go_simp <;> with_reducible rfl
  try simp only [zz]
  refine tk 2 95 (.int .i64 y16) rfl (by kernel_rfl) (fun _ _ _ h => h) (by kernel_rfl) (fun V hV => ex_eqv (by kernel_rfl) e4.out) hHeld ?_
  try simp only [zz]
  refine tk 3 96 ?_ rfl (by kernel_rfl) (fun _ _ _ h => h) (by kernel_rfl) ?_ hHeld ?_
  rotate_left
  · intro w1 hSw; (try dsimp only at hSw); go_simp <;> with_reducible rfl
  try simp only [zz]
  refine tk 4 97 ?_ rfl (by kernel_rfl) (fun _ _ _ h => h) (by kernel_rfl) ?_ hHeld ?_
  rotate_left
  · intro w1 hSw; (try dsimp only at hSw); have cc := show _ = some (Value.int .i64 rf) from (((HK.out.old hSw).row w.heap.size 63 (r5 rs rf rl ra rb) (.tail _ (.tail _ (.head _)))).cell 1); go_simp <;> with_reducible rfl
  try simp only [zz]
  refine tk 5 98 (.int .i64 k2) rfl (by kernel_rfl) (fun _ _ _ h => h) (by kernel_rfl) (fun V hV => ex_eqv (by kernel_rfl) e5.out) hHeld ?_
  try simp only [zz]
  refine tk 6 99 (.int .i64 k3) rfl (by kernel_rfl) (fun _ _ _ h => h) (by kernel_rfl) (fun V hV => ex_eqv (by kernel_rfl) e6.out) hHeld ?_
  try simp only [zz]
  refine tk 7 100 (.int .i64 k4) rfl (by kernel_rfl) (fun _ _ _ h => h) (by kernel_rfl) (fun V hV => ex_rem _ _ rfl rfl rfl e7.out e8.out) hHeld ?_
  try simp only [zz]
  refine tk 8 101 ?_ rfl (by kernel_rfl) (fun _ _ _ h => h) (by kernel_rfl) ?_ hHeld ?_
  rotate_left
  · intro w1 hSw; (try dsimp only at hSw); go_simp <;> with_reducible rfl
  try simp only [zz]
  refine tk 9 102 ?_ rfl (by kernel_rfl) (fun _ _ _ h => h) (by kernel_rfl) ?_ hHeld ?_
  rotate_left
  · intro w1 hSw; (try dsimp only at hSw); have cc := show _ = some (Value.int .i64 rf) from (((HK.out.old hSw).row w.heap.size 63 (r5 rs rf rl ra rb) (.tail _ (.tail _ (.head _)))).cell 1); go_simp <;> with_reducible rfl
  try simp only [zz]
  refine tk 10 103 (.int .i64 start) rfl (by kernel_rfl) (fun _ _ _ h => h) (by kernel_rfl) (fun V hV => ex_eqv (by kernel_rfl) e9.out) hHeld ?_
  try simp only [zz]
  refine tk 11 11 ?_ rfl (by kernel_rfl) (fun _ _ _ h => h) (by kernel_rfl) ?_ hHeld ?_
  rotate_left
  · intro w1 hSw; (try dsimp only at hSw); go_simp <;> with_reducible rfl
  try simp only [zz]
  refine wpAnyH_done (by kernel_rfl) ?_ _
  go_wp2_with fail
  go_meet
  exact ⟨rfl, Lib.hid (HK.out.old hHeld)⟩
 case rest =>
 clear HK
 obtain ⟨rfl, HK⟩ := hcut
 go_upto_region 8 with fail
 go_cut [12, 13] from 104 to 114 (fun s12 s13 wx => ∃ Af cf, s12 = .slice Af 3 cf ∧ s13 = .int .i64 0 ∧ Hid (KpT w [((w.heap.size + 1 + 1), 69, (xh11 g8 y16 z16 l0 l1 l2 nz o0 o1 o2 o3)), ((w.heap.size + 1), 42, (i6 a b c d x y)), (w.heap.size, 63, (r5 rs rf rl ra rb))] [(Af, (ints FLs))] wx))
 case first =>
  have HV := HK
  go_wp2_with (first
   | (refine wpList_load_row rfl 63 _ rfl w.heap.size rfl 63 #[.int .i64 rs, .int .i64 rf, .int .i64 rl, .int .i64 ra, .int .i64 rb] (0, 0) _ (HV.out.row w.heap.size 63 (r5 rs rf rl ra rb) (.tail _ (.tail _ (.head _)))) Tryz.underlying63 rfl ?_ ?_; (kernel_rfl))
   | (refine wpList_load_row rfl 42 _ rfl (w.heap.size + 1) rfl 42 #[.int .i64 a, .int .i64 b, .int .i64 c, .int .i64 d, .int .i64 x, .int .i64 y] (0, 0) _ (HV.out.row (w.heap.size + 1) 42 (i6 a b c d x y) (.tail _ (.head _))) Tryz.underlying42 rfl ?_ ?_; (kernel_rfl))
   | (go_at_call 28; refine (hFo.out _ _ _ Rd.newT).mono ?_; rintro e w2 ⟨Af, cf, rfl, hF, hb⟩; replace HV := Lib.hid (HV.out.old (((Below.refl _ _).alloc (Nat.le_refl _) _).trans (hb.mono ((Below.refl _ _).alloc (Nat.le_refl _) _).size))); clear hb))
  go_meet
  exact ⟨_, _, rfl, rfl, Lib.hid (KpT.rcons HV.out hF)⟩
 case rest =>
 clear HK
 obtain ⟨Af, cf, rfl, rfl, HK⟩ := hcut
 go_upto_region 9 with fail
 go_cut [121] from 115 to 120 (fun s121 wx => s121 = .bool false ∧ Hid (KpT w [((w.heap.size + 1 + 1), 69, (xh11 g8 y16 z16 l0 l1 l2 nz o0 o1 o2 o3)), ((w.heap.size + 1), 42, (i6 a b c d x y)), (w.heap.size, 63, (r5 rs rf rl ra rb))] [(Af, (ints FLs))] wx))
 case first =>
  go_wp2_with fail
  all_goals (go_meet; exact ⟨rfl, HK⟩)
 case rest =>
 clear HK
 obtain ⟨rfl, HK⟩ := hcut
 go_wp2_with fail
 go_loopw [124] (fun s124 wr => ∃ k : Nat, k ≤ 3 ∧ s124 = .int .i64 k ∧ Hid (KpT w [((w.heap.size + 1 + 1), 69, (xh11 g8 y16 z16 l0 l1 l2 nz o0 o1 o2 o3)), ((w.heap.size + 1), 42, (i6 a b c d x y)), (w.heap.size, 63, (r5 rs rf rl ra rb))] [(Af, (ints FLs))] wr)) (fun s124 _ => 3 - (intOf s124).toNat)
 case atStart => exact ⟨0, by omega, rfl, HK⟩
 case round =>
 clear HK
 obtain ⟨k, hk, rfl, HK⟩ := hrel
 by_cases hlt : k < 3
 · have h1 : decide ((k : Int) < 3) = true := by simpa using (by omega : (k : Int) < 3)
   have hk3 : k < FLs.length := by rw [hF3.out]; exact hlt
   obtain ⟨b0, o0', hA0, hc0⟩ := (HK.out.rd Af (ints FLs) (.head _)).int hk3
   subst hA0
   have hv := List.getElem_mem hk3
   obtain ⟨v, hvE⟩ : ∃ v, v = FLs[k] := ⟨_, rfl⟩
   rw [← hvE] at hc0 hv
   have Hlt := Lib.hid hlt; have HV0 := Lib.hid hv
   have i1 : (k : Int) < 3 := by omega
   clear hlt hv hvE hk3
   cases hzF : zF
   case false =>
    have q0 : FL.toList.isEmpty = false := hq.out.trans hzF
    have q1 : (v != start) = false := by have h := hFs.out hzF v HV0.out; simpa using h
    clear hzF
    go_wp2_with fail
    go_roundw
    case rel => exact ⟨k + 1, by have := Hlt.out; omega, by go_num, HK⟩
    case measure => have := Hlt.out; simp [intOf]; omega
   case true =>
    have q0 : FL.toList.isEmpty = true := hq.out.trans hzF
    obtain ⟨q1, q2⟩ := hFt.out hzF v HV0.out
    clear hzF
    rcases Int.lt_trichotomy start n with ho | ho | ho
    · have y1 : ¬ v < start := by omega
      have y2 : ¬ n < v := by omega
      have y3 : ¬ n < start := by omega
      clear q1 q2
      go_wp2_with fail
      go_roundw
      case rel => exact ⟨k + 1, by have := Hlt.out; omega, by go_num, HK⟩
      case measure => have := Hlt.out; simp [intOf]; omega
    · have y1 : ¬ v < n := by omega
      have y2 : ¬ n < v := by omega
      have y3 : ¬ n < n := by omega
      clear q1 q2
      have HO := Lib.hid ho
      clear ho
      go_wp2_with fail
      go_roundw
      case rel => exact ⟨k + 1, by have := Hlt.out; omega, by go_num, HK⟩
      case measure => have := Hlt.out; simp [intOf]; omega
    · have y1 : ¬ v < n := by omega
      have y2 : ¬ start < v := by omega
      have y3 : ¬ start < n := by omega
      clear q1 q2
      go_wp2_with fail
      go_roundw
      case rel => exact ⟨k + 1, by have := Hlt.out; omega, by go_num, HK⟩
      case measure => have := Hlt.out; simp [intOf]; omega
 · obtain rfl : k = 3 := by omega
   have h1 : decide (((3 : Nat) : Int) < 3) = false := rfl
   obtain ⟨wc, hwc⟩ : ∃ W : World, W = wr := ⟨_, rfl⟩
   subst hwc
   clear hFo hF3 hFs hFt hk
   go_upto_region 17 with fail
   go_cut [16] from 154 to 158 (fun s16 wx => s16 = .int .i64 low ∧ Hid (KpT w [((w.heap.size + 1 + 1), 69, (xh11 g8 y16 z16 l0 l1 l2 nz o0 o1 o2 o3)), ((w.heap.size + 1), 42, (i6 a b c d x y)), (w.heap.size, 63, (r5 rs rf rl ra rb))] [(Af, (ints FLs))] wx))
   case first =>
    have HV := HK
    have c0 := show _ = some (Value.int .u16 l0) from ((HK.out.row (w.heap.size + 1 + 1) 69 (xh11 g8 y16 z16 l0 l1 l2 nz o0 o1 o2 o3) (.head _)).cell 3)
    have z1 := e10.out
    go_wp2_with fail
    go_meet
    exact ⟨congrArg (Value.int .i64) (show l0.tmod 1001 = low by rw [e11.out]), HV⟩
   case rest =>
   clear HK
   obtain ⟨rfl, HK⟩ := hcut
   go_upto_region 18 with fail
   go_cut [17] from 159 to 167 (fun s17 wx => s17 = .int .i64 high ∧ Hid (KpT w [((w.heap.size + 1 + 1), 69, (xh11 g8 y16 z16 l0 l1 l2 nz o0 o1 o2 o3)), ((w.heap.size + 1), 42, (i6 a b c d x y)), (w.heap.size, 63, (r5 rs rf rl ra rb))] [(Af, (ints FLs))] wx))
   case first =>
    have HV := HK
    have c0 := show _ = some (Value.int .u16 l1) from ((HK.out.row (w.heap.size + 1 + 1) 69 (xh11 g8 y16 z16 l0 l1 l2 nz o0 o1 o2 o3) (.head _)).cell 4)
    have z1 := e12.out
    have z2 : wrap64 (1001 - low) ≠ 0 := by rw [e13.out]; exact e14.out
    go_wp2_with fail
    go_meet
    exact ⟨congrArg (Value.int .i64) (show wrap64 (low + l1.tmod (wrap64 (1001 - low))) = high by rw [e13.out, e15.out, e16.out]), HV⟩
   case rest =>
   clear HK
   obtain ⟨rfl, HK⟩ := hcut
   go_upto_region 19 with fail
   go_cut [18] from 168 to 178 (fun s18 wx => s18 = .int .i64 mid ∧ Hid (KpT w [((w.heap.size + 1 + 1), 69, (xh11 g8 y16 z16 l0 l1 l2 nz o0 o1 o2 o3)), ((w.heap.size + 1), 42, (i6 a b c d x y)), (w.heap.size, 63, (r5 rs rf rl ra rb))] [(Af, (ints FLs))] wx))
   case first =>
    have HV := HK
    have c0 := show _ = some (Value.int .u16 l2) from ((HK.out.row (w.heap.size + 1 + 1) 69 (xh11 g8 y16 z16 l0 l1 l2 nz o0 o1 o2 o3) (.head _)).cell 5)
    have z1 := e17.out
    have z2 : wrap64 (wrap64 (high - low) + 1) ≠ 0 := by rw [e18.out, e19.out]; exact e20.out
    go_wp2_with fail
    go_meet
    exact ⟨congrArg (Value.int .i64) (show wrap64 (low + l2.tmod (wrap64 (wrap64 (high - low) + 1))) = mid by rw [e18.out, e19.out, e21.out, e22.out]), HV⟩
   case rest =>
   clear HK
   obtain ⟨rfl, HK⟩ := hcut
   go_upto_region 20 with fail
   go_cut [19, 20] from 179 to 187 (fun s19 s20 wx => ∃ g19, s19 = .pointer (some ⟨g19, 0, none⟩) ∧ s20 = .int .i64 0 ∧ Hid (KpT w [(g19, 61, (i2 aL aH)), ((w.heap.size + 1 + 1), 69, (xh11 g8 y16 z16 l0 l1 l2 nz o0 o1 o2 o3)), ((w.heap.size + 1), 42, (i6 a b c d x y)), (w.heap.size, 63, (r5 rs rf rl ra rb))] [(Af, (ints FLs))] wx))
   case first =>
    refine wp_region_held_drew (S := fun V => Below wc.heap.size wc V) (by kernel_rfl) ?_ (fun hHeld => ?_)
    · exact (Below.refl _ _).drew
    refine tk 0 180 (.agg #[.int .i64 rs, .int .i64 rf, .int .i64 rl, .int .i64 ra, .int .i64 rb]) rfl (by kernel_rfl) (fun _ _ _ h => h) (by kernel_rfl) (fun V hV => ex_rowT 63 _ rfl (w.heap.size) rfl 63 (r5 rs rf rl ra rb) _ Tryz.underlying63 rfl (by kernel_rfl) ((HK.out.old hV).row w.heap.size 63 (r5 rs rf rl ra rb) (.tail _ (.tail _ (.head _))))) hHeld ?_
    try simp only [zz]
    refine tk 1 181 (.agg #[.int .i64 a, .int .i64 b, .int .i64 c, .int .i64 d, .int .i64 x, .int .i64 y]) rfl (by kernel_rfl) (fun _ _ _ h => h) (by kernel_rfl) (fun V hV => ex_rowT 42 _ rfl ((w.heap.size + 1)) rfl 42 (i6 a b c d x y) _ Tryz.underlying42 rfl (by kernel_rfl) ((HK.out.old hV).row (w.heap.size + 1) 42 (i6 a b c d x y) (.tail _ (.head _)))) hHeld ?_
    try simp only [zz]
    refine tk 2 182 ?_ rfl (by kernel_rfl) (fun _ _ _ h => h) (by kernel_rfl) ?_ hHeld ?_
    rotate_left
    · intro w1 hSw; (try dsimp only at hSw); go_simp <;> with_reducible rfl
    try simp only [zz]
    refine tk 3 183 ?_ rfl (by kernel_rfl) (fun _ _ _ h => h) (by kernel_rfl) ?_ hHeld ?_
    rotate_left
    · intro w1 hSw; (try dsimp only at hSw); go_simp <;> with_reducible rfl
    try simp only [zz]
    refine wpAnyH_ready (rs := [4, 9]) (by kernel_rfl) (by simp) ?_
    refine AllReadyH.cons rfl (fun K hK => ?_) (AllReadyH.cons rfl (fun K hK => ?_) AllReadyH.nil)
    rotate_left
    have hge := hHeld.size
    go_simp
    refine hK.out _ _ ?_ (fun hHeld => ?_)
    · exact hHeld.alloc hHeld.size _
    clear hK K
    try simp only [zz]
    first | refine use_row (Row.new _ 61 [.int .i64 0, .int .i64 0]) (fun hr => ?_) | refine use_row (Row.new _ 61 [.int .i64 0, .int .i64 0]).drew (fun hr => ?_)
    all_goals (try (refine wpAnyH_ready (rs := [4]) (by kernel_rfl) (by simp) ?_; refine AllReadyH.cons rfl (fun K hK => ?_) AllReadyH.nil))
    all_goals
     go_simp
     go_at_call 30
     refine (to2_any _ _ _).mono ?_
     rintro e v1 ⟨rfl, hb⟩
     try replace hr := hr.old hb
     have hz := hb.size
     try simp only [World.size_alloc, size_drewT] at hz
     try go_simp
     refine hK.out _ _ ?_ (fun hHeld => ?_)
     · exact hHeld.trans (hb.mono hHeld.size)
     clear hK K
     try simp only [zz]
    rotate_right
    refine wpAnyH_ready (rs := [5, 9]) (by kernel_rfl) (by simp) ?_
    refine AllReadyH.cons rfl (fun K hK => ?_) (AllReadyH.cons rfl (fun K hK => ?_) AllReadyH.nil)
    rotate_left
    have hge := hHeld.size
    go_simp
    refine hK.out _ _ ?_ (fun hHeld => ?_)
    · exact hHeld.alloc hHeld.size _
    clear hK K
    try simp only [zz]
    first | refine use_row (Row.new _ 61 [.int .i64 0, .int .i64 0]) (fun hr => ?_) | refine use_row (Row.new _ 61 [.int .i64 0, .int .i64 0]).drew (fun hr => ?_)
    all_goals (try (refine wpAnyH_ready (rs := [5]) (by kernel_rfl) (by simp) ?_; refine AllReadyH.cons rfl (fun K hK => ?_) AllReadyH.nil))
    all_goals
     go_simp
     go_at_call 29
     refine (hL1.out _).mono ?_
     rintro e v1 ⟨rfl, hb⟩
     try replace hr := hr.old hb
     have hz := hb.size
     try simp only [World.size_alloc, size_drewT] at hz
     try go_simp
     refine hK.out _ _ ?_ (fun hHeld => ?_)
     · exact hHeld.trans (hb.mono hHeld.size)
     clear hK K
     try simp only [zz]
     refine tk 6 179 ?_ rfl (by kernel_rfl) (fun _ _ _ h => h) (by kernel_rfl) ?_ hHeld ?_
     rotate_left
     · intro w1 hSw; (try dsimp only at hSw); go_simp <;> with_reducible rfl
     try simp only [zz]
     refine tk 7 186 ?_ rfl (by kernel_rfl) (fun _ _ _ h => h) (by kernel_rfl) ?_ hHeld ?_
     rotate_left
     · intro w1 hSw; (try dsimp only at hSw); go_simp <;> with_reducible rfl
     try simp only [zz]
     refine tk 8 187 ?_ rfl (by kernel_rfl) (fun _ _ _ h => h) (by kernel_rfl) ?_ hHeld ?_
     rotate_left
     · intro w1 hSw; (try dsimp only at hSw); go_simp <;> with_reducible rfl
     try simp only [zz]
    rotate_right
    refine st1 9 (by kernel_rfl) rfl (fun K hK => ?_)
    have hge := hHeld.size
    go_simp
    refine hK.out _ _ ?_ (fun hHeld => ?_)
    · exact hHeld.alloc hHeld.size _
    clear hK K
    try simp only [zz]
    first | refine use_row (Row.new _ 61 [.int .i64 0, .int .i64 0]) (fun hr => ?_) | refine use_row (Row.new _ 61 [.int .i64 0, .int .i64 0]).drew (fun hr => ?_)
    all_goals
     refine st1 10 (by kernel_rfl) rfl (fun K hK => ?_)
     refine step_store_row rfl 61 _ _ rfl _ [.int .i64 aL, .int .i64 aH] rfl rfl 61 [.int .i64 0, .int .i64 0] hr (by kernel_rfl) rfl (by simp [Value.oneCell']) ?_
     refine hK.out _ _ ?_ (fun hHeld => ?_)
     · exact Below.setRow hHeld hge _
     clear hK K
     try simp only [zz]
     refine tk 11 20 ?_ rfl (by kernel_rfl) (fun _ _ _ h => h) (by kernel_rfl) ?_ hHeld ?_
     rotate_left
     · intro w1 hSw; (try dsimp only at hSw); go_simp <;> with_reducible rfl
     try simp only [zz]
     refine wpAnyH_done (by kernel_rfl) ?_ _
     go_wp2_with fail
     go_meet
     exact ⟨_, rfl, rfl, Lib.hid (KpT.cons (HK.out.old hHeld) (hr.setRow _))⟩
   case rest =>
   clear HK
   obtain ⟨g19, rfl, rfl, HK⟩ := hcut
   go_upto_region 21 with fail
   go_cut [21, 22] from 188 to 196 (fun s21 s22 wx => ∃ g21, s21 = .pointer (some ⟨g21, 0, none⟩) ∧ s22 = .int .i64 0 ∧ Hid (KpT w [(g21, 61, (i2 bV bV)), (g19, 61, (i2 aL aH)), ((w.heap.size + 1 + 1), 69, (xh11 g8 y16 z16 l0 l1 l2 nz o0 o1 o2 o3)), ((w.heap.size + 1), 42, (i6 a b c d x y)), (w.heap.size, 63, (r5 rs rf rl ra rb))] [(Af, (ints FLs))] wx))
   case first =>
    refine wp_region_held_drew (S := fun V => Below wc.heap.size wc V) (by kernel_rfl) ?_ (fun hHeld => ?_)
    · exact (Below.refl _ _).drew
    refine tk 0 189 (.agg #[.int .i64 rs, .int .i64 rf, .int .i64 rl, .int .i64 ra, .int .i64 rb]) rfl (by kernel_rfl) (fun _ _ _ h => h) (by kernel_rfl) (fun V hV => ex_rowT 63 _ rfl (w.heap.size) rfl 63 (r5 rs rf rl ra rb) _ Tryz.underlying63 rfl (by kernel_rfl) ((HK.out.old hV).row w.heap.size 63 (r5 rs rf rl ra rb) (.tail _ (.tail _ (.tail _ (.head _)))))) hHeld ?_
    try simp only [zz]
    refine tk 1 190 (.agg #[.int .i64 a, .int .i64 b, .int .i64 c, .int .i64 d, .int .i64 x, .int .i64 y]) rfl (by kernel_rfl) (fun _ _ _ h => h) (by kernel_rfl) (fun V hV => ex_rowT 42 _ rfl ((w.heap.size + 1)) rfl 42 (i6 a b c d x y) _ Tryz.underlying42 rfl (by kernel_rfl) ((HK.out.old hV).row (w.heap.size + 1) 42 (i6 a b c d x y) (.tail _ (.tail _ (.head _))))) hHeld ?_
    try simp only [zz]
    refine tk 2 191 ?_ rfl (by kernel_rfl) (fun _ _ _ h => h) (by kernel_rfl) ?_ hHeld ?_
    rotate_left
    · intro w1 hSw; (try dsimp only at hSw); go_simp <;> with_reducible rfl
    try simp only [zz]
    refine tk 3 192 ?_ rfl (by kernel_rfl) (fun _ _ _ h => h) (by kernel_rfl) ?_ hHeld ?_
    rotate_left
    · intro w1 hSw; (try dsimp only at hSw); go_simp <;> with_reducible rfl
    try simp only [zz]
    refine wpAnyH_ready (rs := [4, 9]) (by kernel_rfl) (by simp) ?_
    refine AllReadyH.cons rfl (fun K hK => ?_) (AllReadyH.cons rfl (fun K hK => ?_) AllReadyH.nil)
    rotate_left
    have hge := hHeld.size
    go_simp
    refine hK.out _ _ ?_ (fun hHeld => ?_)
    · exact hHeld.alloc hHeld.size _
    clear hK K
    try simp only [zz]
    first | refine use_row (Row.new _ 61 [.int .i64 0, .int .i64 0]) (fun hr => ?_) | refine use_row (Row.new _ 61 [.int .i64 0, .int .i64 0]).drew (fun hr => ?_)
    all_goals (try (refine wpAnyH_ready (rs := [4]) (by kernel_rfl) (by simp) ?_; refine AllReadyH.cons rfl (fun K hK => ?_) AllReadyH.nil))
    all_goals
     go_simp
     go_at_call 30
     refine (to2_any _ _ _).mono ?_
     rintro e v1 ⟨rfl, hb⟩
     try replace hr := hr.old hb
     have hz := hb.size
     try simp only [World.size_alloc, size_drewT] at hz
     try go_simp
     refine hK.out _ _ ?_ (fun hHeld => ?_)
     · exact hHeld.trans (hb.mono hHeld.size)
     clear hK K
     try simp only [zz]
    rotate_right
    refine wpAnyH_ready (rs := [5, 9]) (by kernel_rfl) (by simp) ?_
    refine AllReadyH.cons rfl (fun K hK => ?_) (AllReadyH.cons rfl (fun K hK => ?_) AllReadyH.nil)
    rotate_left
    have hge := hHeld.size
    go_simp
    refine hK.out _ _ ?_ (fun hHeld => ?_)
    · exact hHeld.alloc hHeld.size _
    clear hK K
    try simp only [zz]
    first | refine use_row (Row.new _ 61 [.int .i64 0, .int .i64 0]) (fun hr => ?_) | refine use_row (Row.new _ 61 [.int .i64 0, .int .i64 0]).drew (fun hr => ?_)
    all_goals (try (refine wpAnyH_ready (rs := [5]) (by kernel_rfl) (by simp) ?_; refine AllReadyH.cons rfl (fun K hK => ?_) AllReadyH.nil))
    all_goals
     go_simp
     go_at_call 29
     refine (hL2.out _).mono ?_
     rintro e v1 ⟨rfl, hb⟩
     try replace hr := hr.old hb
     have hz := hb.size
     try simp only [World.size_alloc, size_drewT] at hz
     try go_simp
     refine hK.out _ _ ?_ (fun hHeld => ?_)
     · exact hHeld.trans (hb.mono hHeld.size)
     clear hK K
     try simp only [zz]
     refine tk 6 188 ?_ rfl (by kernel_rfl) (fun _ _ _ h => h) (by kernel_rfl) ?_ hHeld ?_
     rotate_left
     · intro w1 hSw; (try dsimp only at hSw); go_simp <;> with_reducible rfl
     try simp only [zz]
     refine tk 7 195 ?_ rfl (by kernel_rfl) (fun _ _ _ h => h) (by kernel_rfl) ?_ hHeld ?_
     rotate_left
     · intro w1 hSw; (try dsimp only at hSw); go_simp <;> with_reducible rfl
     try simp only [zz]
     refine tk 8 196 ?_ rfl (by kernel_rfl) (fun _ _ _ h => h) (by kernel_rfl) ?_ hHeld ?_
     rotate_left
     · intro w1 hSw; (try dsimp only at hSw); go_simp <;> with_reducible rfl
     try simp only [zz]
    rotate_right
    refine st1 9 (by kernel_rfl) rfl (fun K hK => ?_)
    have hge := hHeld.size
    go_simp
    refine hK.out _ _ ?_ (fun hHeld => ?_)
    · exact hHeld.alloc hHeld.size _
    clear hK K
    try simp only [zz]
    first | refine use_row (Row.new _ 61 [.int .i64 0, .int .i64 0]) (fun hr => ?_) | refine use_row (Row.new _ 61 [.int .i64 0, .int .i64 0]).drew (fun hr => ?_)
    all_goals
     refine st1 10 (by kernel_rfl) rfl (fun K hK => ?_)
     refine step_store_row rfl 61 _ _ rfl _ [.int .i64 bV, .int .i64 bV] rfl rfl 61 [.int .i64 0, .int .i64 0] hr (by kernel_rfl) rfl (by simp [Value.oneCell']) ?_
     refine hK.out _ _ ?_ (fun hHeld => ?_)
     · exact Below.setRow hHeld hge _
     clear hK K
     try simp only [zz]
     refine tk 11 22 ?_ rfl (by kernel_rfl) (fun _ _ _ h => h) (by kernel_rfl) ?_ hHeld ?_
     rotate_left
     · intro w1 hSw; (try dsimp only at hSw); go_simp <;> with_reducible rfl
     try simp only [zz]
     refine wpAnyH_done (by kernel_rfl) ?_ _
     go_wp2_with fail
     go_meet
     exact ⟨_, rfl, rfl, Lib.hid (KpT.cons (HK.out.old hHeld) (hr.setRow _))⟩
   case rest =>
   clear HK
   obtain ⟨g21, rfl, rfl, HK⟩ := hcut
   go_upto_region 22 with fail
   go_cut [23, 24] from 197 to 203 (fun s23 s24 wx => ∃ g23, s23 = .pointer (some ⟨g23, 0, none⟩) ∧ s24 = .int .i64 0 ∧ Hid (KpT w [(g23, 61, (i2 cV cV)), (g21, 61, (i2 bV bV)), (g19, 61, (i2 aL aH)), ((w.heap.size + 1 + 1), 69, (xh11 g8 y16 z16 l0 l1 l2 nz o0 o1 o2 o3)), ((w.heap.size + 1), 42, (i6 a b c d x y)), (w.heap.size, 63, (r5 rs rf rl ra rb))] [(Af, (ints FLs))] wx))
   case first =>
    refine wp_region_held_drew (S := fun V => Below wc.heap.size wc V) (by kernel_rfl) ?_ (fun hHeld => ?_)
    · exact (Below.refl _ _).drew
    refine tk 0 198 (.agg #[.int .i64 rs, .int .i64 rf, .int .i64 rl, .int .i64 ra, .int .i64 rb]) rfl (by kernel_rfl) (fun _ _ _ h => h) (by kernel_rfl) (fun V hV => ex_rowT 63 _ rfl (w.heap.size) rfl 63 (r5 rs rf rl ra rb) _ Tryz.underlying63 rfl (by kernel_rfl) ((HK.out.old hV).row w.heap.size 63 (r5 rs rf rl ra rb) (.tail _ (.tail _ (.tail _ (.tail _ (.head _))))))) hHeld ?_
    try simp only [zz]
    refine tk 1 199 (.agg #[.int .i64 a, .int .i64 b, .int .i64 c, .int .i64 d, .int .i64 x, .int .i64 y]) rfl (by kernel_rfl) (fun _ _ _ h => h) (by kernel_rfl) (fun V hV => ex_rowT 42 _ rfl ((w.heap.size + 1)) rfl 42 (i6 a b c d x y) _ Tryz.underlying42 rfl (by kernel_rfl) ((HK.out.old hV).row (w.heap.size + 1) 42 (i6 a b c d x y) (.tail _ (.tail _ (.tail _ (.head _)))))) hHeld ?_
    try simp only [zz]
    refine wpAnyH_ready (rs := [2, 7]) (by kernel_rfl) (by simp) ?_
    refine AllReadyH.cons rfl (fun K hK => ?_) (AllReadyH.cons rfl (fun K hK => ?_) AllReadyH.nil)
    rotate_left
    have hge := hHeld.size
    go_simp
    refine hK.out _ _ ?_ (fun hHeld => ?_)
    · exact hHeld.alloc hHeld.size _
    clear hK K
    try simp only [zz]
    first | refine use_row (Row.new _ 61 [.int .i64 0, .int .i64 0]) (fun hr => ?_) | refine use_row (Row.new _ 61 [.int .i64 0, .int .i64 0]).drew (fun hr => ?_)
    all_goals (try (refine wpAnyH_ready (rs := [2]) (by kernel_rfl) (by simp) ?_; refine AllReadyH.cons rfl (fun K hK => ?_) AllReadyH.nil))
    all_goals
     go_simp
     go_at_call 30
     refine (to2_any _ _ _).mono ?_
     rintro e v1 ⟨rfl, hb⟩
     try replace hr := hr.old hb
     have hz := hb.size
     try simp only [World.size_alloc, size_drewT] at hz
     try go_simp
     refine hK.out _ _ ?_ (fun hHeld => ?_)
     · exact hHeld.trans (hb.mono hHeld.size)
     clear hK K
     try simp only [zz]
    rotate_right
    refine wpAnyH_ready (rs := [3, 7]) (by kernel_rfl) (by simp) ?_
    refine AllReadyH.cons rfl (fun K hK => ?_) (AllReadyH.cons rfl (fun K hK => ?_) AllReadyH.nil)
    rotate_left
    have hge := hHeld.size
    go_simp
    refine hK.out _ _ ?_ (fun hHeld => ?_)
    · exact hHeld.alloc hHeld.size _
    clear hK K
    try simp only [zz]
    first | refine use_row (Row.new _ 61 [.int .i64 0, .int .i64 0]) (fun hr => ?_) | refine use_row (Row.new _ 61 [.int .i64 0, .int .i64 0]).drew (fun hr => ?_)
    all_goals (try (refine wpAnyH_ready (rs := [3]) (by kernel_rfl) (by simp) ?_; refine AllReadyH.cons rfl (fun K hK => ?_) AllReadyH.nil))
    all_goals
     go_simp
     go_at_call 29
     refine (hL3.out _).mono ?_
     rintro e v1 ⟨rfl, hb⟩
     try replace hr := hr.old hb
     have hz := hb.size
     try simp only [World.size_alloc, size_drewT] at hz
     try go_simp
     refine hK.out _ _ ?_ (fun hHeld => ?_)
     · exact hHeld.trans (hb.mono hHeld.size)
     clear hK K
     try simp only [zz]
     refine tk 4 197 ?_ rfl (by kernel_rfl) (fun _ _ _ h => h) (by kernel_rfl) ?_ hHeld ?_
     rotate_left
     · intro w1 hSw; (try dsimp only at hSw); go_simp <;> with_reducible rfl
     try simp only [zz]
     refine tk 5 202 ?_ rfl (by kernel_rfl) (fun _ _ _ h => h) (by kernel_rfl) ?_ hHeld ?_
     rotate_left
     · intro w1 hSw; (try dsimp only at hSw); go_simp <;> with_reducible rfl
     try simp only [zz]
     refine tk 6 203 ?_ rfl (by kernel_rfl) (fun _ _ _ h => h) (by kernel_rfl) ?_ hHeld ?_
     rotate_left
     · intro w1 hSw; (try dsimp only at hSw); go_simp <;> with_reducible rfl
     try simp only [zz]
    rotate_right
    refine st1 7 (by kernel_rfl) rfl (fun K hK => ?_)
    have hge := hHeld.size
    go_simp
    refine hK.out _ _ ?_ (fun hHeld => ?_)
    · exact hHeld.alloc hHeld.size _
    clear hK K
    try simp only [zz]
    first | refine use_row (Row.new _ 61 [.int .i64 0, .int .i64 0]) (fun hr => ?_) | refine use_row (Row.new _ 61 [.int .i64 0, .int .i64 0]).drew (fun hr => ?_)
    all_goals
     refine st1 8 (by kernel_rfl) rfl (fun K hK => ?_)
     refine step_store_row rfl 61 _ _ rfl _ [.int .i64 cV, .int .i64 cV] rfl rfl 61 [.int .i64 0, .int .i64 0] hr (by kernel_rfl) rfl (by simp [Value.oneCell']) ?_
     refine hK.out _ _ ?_ (fun hHeld => ?_)
     · exact Below.setRow hHeld hge _
     clear hK K
     try simp only [zz]
     refine tk 9 24 ?_ rfl (by kernel_rfl) (fun _ _ _ h => h) (by kernel_rfl) ?_ hHeld ?_
     rotate_left
     · intro w1 hSw; (try dsimp only at hSw); go_simp <;> with_reducible rfl
     try simp only [zz]
     refine wpAnyH_done (by kernel_rfl) ?_ _
     go_wp2_with fail
     go_meet
     exact ⟨_, rfl, rfl, Lib.hid (KpT.cons (HK.out.old hHeld) (hr.setRow _))⟩
   case rest =>
   clear HK
   obtain ⟨g23, rfl, rfl, HK⟩ := hcut
   go_upto_region 23 with fail
   go_cut [25] from 204 to 206 (fun s25 wx => ∃ g25, s25 = .pointer (some ⟨g25, 0, none⟩) ∧ Hid (KpT w [(g25, 3, [.int .i64 nz]), (g23, 61, (i2 cV cV)), (g21, 61, (i2 bV bV)), (g19, 61, (i2 aL aH)), ((w.heap.size + 1 + 1), 69, (xh11 g8 y16 z16 l0 l1 l2 nz o0 o1 o2 o3)), ((w.heap.size + 1), 42, (i6 a b c d x y)), (w.heap.size, 63, (r5 rs rf rl ra rb))] [(Af, (ints FLs))] wx))
   case first =>
    have HV := HK
    have c0 := show _ = some (Value.int .u8 nz) from ((HK.out.row (w.heap.size + 1 + 1) 69 (xh11 g8 y16 z16 l0 l1 l2 nz o0 o1 o2 o3) (.tail _ (.tail _ (.tail _ (.head _))))).cell 6)
    have z1 := e23.out
    go_wp2_with fail
    go_meet
    exact ⟨_, rfl, Lib.hid (KpT.cons (HV.out.old ((Below.refl _ _).alloc (Nat.le_refl _) _)) (Row.new wc 3 [.int .i64 nz]))⟩
   case rest =>
   clear HK
   obtain ⟨g25, rfl, HK⟩ := hcut
   go_upto_region 24 with fail
   go_cut [26, 27] from 207 to 213 (fun s26 s27 wx => ∃ g26, s26 = .pointer (some ⟨g26, 0, none⟩) ∧ s27 = .int .i64 0 ∧ Hid (KpT w [(g26, 61, (i2 dL dH)), (g25, 3, [.int .i64 nz]), (g23, 61, (i2 cV cV)), (g21, 61, (i2 bV bV)), (g19, 61, (i2 aL aH)), ((w.heap.size + 1 + 1), 69, (xh11 g8 y16 z16 l0 l1 l2 nz o0 o1 o2 o3)), ((w.heap.size + 1), 42, (i6 a b c d x y)), (w.heap.size, 63, (r5 rs rf rl ra rb))] [(Af, (ints FLs))] wx))
   case first =>
    have HV := HK
    have c0 := show _ = some (Value.int .i64 nz) from ((HK.out.row g25 3 [.int .i64 nz] (.head _)).cell 0)
    go_wp2_with (first
     | (refine wpList_load_row rfl 63 _ rfl w.heap.size rfl 63 #[.int .i64 rs, .int .i64 rf, .int .i64 rl, .int .i64 ra, .int .i64 rb] (0, 0) _ (HV.out.row w.heap.size 63 (r5 rs rf rl ra rb) (.tail _ (.tail _ (.tail _ (.tail _ (.tail _ (.tail _ (.head _)))))))) Tryz.underlying63 rfl ?_ ?_; (kernel_rfl))
     | (refine wpList_load_row rfl 42 _ rfl (w.heap.size + 1) rfl 42 #[.int .i64 a, .int .i64 b, .int .i64 c, .int .i64 d, .int .i64 x, .int .i64 y] (0, 0) _ (HV.out.row (w.heap.size + 1) 42 (i6 a b c d x y) (.tail _ (.tail _ (.tail _ (.tail _ (.tail _ (.head _))))))) Tryz.underlying42 rfl ?_ ?_; (kernel_rfl))
     | (go_at_call 31; refine (hN1.out _).mono ?_; rintro e w2 ⟨rfl, hb⟩; replace HV := Lib.hid (HV.out.old hb); clear hb)
     | (refine wpList_store_row rfl 61 _ _ rfl (w2.heap.size) #[.int .i64 dL, .int .i64 dH] rfl rfl 61 _ (Row.new w2 61 [.int .i64 0, .int .i64 0]) ?_ ?_ ?_ ?_; (kernel_rfl); (rfl); (simp [Value.oneCell'])))
    go_meet
    exact ⟨_, rfl, rfl, Lib.hid (KpT.cons (HV.out.old (Below.setRow ((Below.refl _ _).alloc (Nat.le_refl _) _) (Nat.le_refl _) _)) ((Row.new w2 61 [.int .i64 0, .int .i64 0]).setRow [.int .i64 dL, .int .i64 dH]))⟩
   case rest =>
   clear HK
   obtain ⟨g26, rfl, rfl, HK⟩ := hcut
   go_upto_region 25 with fail
   go_cut [28, 29] from 214 to 221 (fun s28 s29 wx => ∃ g28, s28 = .pointer (some ⟨g28, 0, none⟩) ∧ s29 = .int .i64 0 ∧ Hid (KpT w [(g28, 61, (i2 fL fH)), (g26, 61, (i2 dL dH)), (g25, 3, [.int .i64 nz]), (g23, 61, (i2 cV cV)), (g21, 61, (i2 bV bV)), (g19, 61, (i2 aL aH)), ((w.heap.size + 1 + 1), 69, (xh11 g8 y16 z16 l0 l1 l2 nz o0 o1 o2 o3)), ((w.heap.size + 1), 42, (i6 a b c d x y)), (w.heap.size, 63, (r5 rs rf rl ra rb))] [(Af, (ints FLs))] wx))
   case first =>
    have HV := HK
    have c0 := show _ = some (Value.int .i64 nz) from ((HK.out.row g25 3 [.int .i64 nz] (.tail _ (.head _))).cell 0)
    go_wp2_with (first
     | (refine wpList_load_row rfl 63 _ rfl w.heap.size rfl 63 #[.int .i64 rs, .int .i64 rf, .int .i64 rl, .int .i64 ra, .int .i64 rb] (0, 0) _ (HV.out.row w.heap.size 63 (r5 rs rf rl ra rb) (.tail _ (.tail _ (.tail _ (.tail _ (.tail _ (.tail _ (.tail _ (.head _))))))))) Tryz.underlying63 rfl ?_ ?_; (kernel_rfl))
     | (refine wpList_load_row rfl 42 _ rfl (w.heap.size + 1) rfl 42 #[.int .i64 a, .int .i64 b, .int .i64 c, .int .i64 d, .int .i64 x, .int .i64 y] (0, 0) _ (HV.out.row (w.heap.size + 1) 42 (i6 a b c d x y) (.tail _ (.tail _ (.tail _ (.tail _ (.tail _ (.tail _ (.head _)))))))) Tryz.underlying42 rfl ?_ ?_; (kernel_rfl))
     | (go_at_call 31; refine (hN2.out _).mono ?_; rintro e w2 ⟨rfl, hb⟩; replace HV := Lib.hid (HV.out.old hb); clear hb)
     | (refine wpList_store_row rfl 61 _ _ rfl (w2.heap.size) #[.int .i64 fL, .int .i64 fH] rfl rfl 61 _ (Row.new w2 61 [.int .i64 0, .int .i64 0]) ?_ ?_ ?_ ?_; (kernel_rfl); (rfl); (simp [Value.oneCell'])))
    go_meet
    exact ⟨_, rfl, rfl, Lib.hid (KpT.cons (HV.out.old (Below.setRow ((Below.refl _ _).alloc (Nat.le_refl _) _) (Nat.le_refl _) _)) ((Row.new w2 61 [.int .i64 0, .int .i64 0]).setRow [.int .i64 fL, .int .i64 fH]))⟩
   case rest =>
   clear HK
   obtain ⟨g28, rfl, rfl, HK⟩ := hcut
   go_upto_region 26 with fail
   go_cut [317] from 220 to 316 (fun s317 wx => s317 = .bool false ∧ Hid (KpT w [(g28, 61, (i2 fL fH)), (g26, 61, (i2 dL dH)), (g25, 3, [.int .i64 nz]), (g23, 61, (i2 cV cV)), (g21, 61, (i2 bV bV)), (g19, 61, (i2 aL aH)), ((w.heap.size + 1 + 1), 69, (xh11 g8 y16 z16 l0 l1 l2 nz o0 o1 o2 o3)), ((w.heap.size + 1), 42, (i6 a b c d x y)), (w.heap.size, 63, (r5 rs rf rl ra rb))] [(Af, (ints FLs))] wx))
   case first =>
    refine wit26 _ (by kernel_rfl) HK hq hc1 hc2 hc3 hc4 hc5 hc6 hc7 (fun _ _ _ d _ h => by cases d <;> exact h) ?_
    intros
    rename_i hh6
    go_wp2_with fail
    go_meet
    exact ⟨rfl, hh6⟩
   case rest =>
   clear HK
   obtain ⟨rfl, HK⟩ := hcut
   go_upto_region 28 with fail
   go_cut [30] from 318 to 318 (fun s30 wx => s30 = (Value.func (.func 32) #[] #[.pointer (some ⟨(w.heap.size + 1 + 1), 0, none⟩), .pointer (some ⟨g25, 0, none⟩)]) ∧ Hid (KpT w [(g28, 61, (i2 fL fH)), (g26, 61, (i2 dL dH)), (g25, 3, [.int .i64 nz]), (g23, 61, (i2 cV cV)), (g21, 61, (i2 bV bV)), (g19, 61, (i2 aL aH)), ((w.heap.size + 1 + 1), 69, (xh11 g8 y16 z16 l0 l1 l2 nz o0 o1 o2 o3)), ((w.heap.size + 1), 42, (i6 a b c d x y)), (w.heap.size, 63, (r5 rs rf rl ra rb))] [(Af, (ints FLs))] wx))
   case first =>
    have HV := HK
    go_wp2_with fail
    go_meet
    exact ⟨rfl, HV⟩
   case rest =>
   clear HK
   obtain ⟨rfl, HK⟩ := hcut
   go_upto_region 29 with fail
   go_cut [31] from 319 to 337 (fun s31 wx => ∃ g31, s31 = .pointer (some ⟨g31, 0, none⟩) ∧ Hid (KpT w [(g31, 42, (i6 a b u0 u1 u2 u3)), (g28, 61, (i2 fL fH)), (g26, 61, (i2 dL dH)), (g25, 3, [.int .i64 nz]), (g23, 61, (i2 cV cV)), (g21, 61, (i2 bV bV)), (g19, 61, (i2 aL aH)), ((w.heap.size + 1 + 1), 69, (xh11 g8 y16 z16 l0 l1 l2 nz o0 o1 o2 o3)), ((w.heap.size + 1), 42, (i6 a b c d x y)), (w.heap.size, 63, (r5 rs rf rl ra rb))] [(Af, (ints FLs))] wx))
   case first =>
    refine wit29 _ (by kernel_rfl) HK hO0 hO1 hO2 hO3 hP1 hP2 (fun _ _ _ d _ h => by cases d <;> exact h) ?_
    intros
    rename_i hh9
    go_wp2_with fail
    go_meet
    exact ⟨_, rfl, hh9⟩
   case rest =>
   clear HK
   obtain ⟨g31, rfl, HK⟩ := hcut
   go_upto_region 30 with fail
   go_cut [32, 33, 34] from 338 to 344 (fun s32 s33 s34 wx => s32 = .int .i64 m ∧ s33 = .string OF ∧ s34 = .int .i64 0 ∧ Hid (KpT w [(g31, 42, (i6 a b u0 u1 u2 u3)), (g28, 61, (i2 fL fH)), (g26, 61, (i2 dL dH)), (g25, 3, [.int .i64 nz]), (g23, 61, (i2 cV cV)), (g21, 61, (i2 bV bV)), (g19, 61, (i2 aL aH)), ((w.heap.size + 1 + 1), 69, (xh11 g8 y16 z16 l0 l1 l2 nz o0 o1 o2 o3)), ((w.heap.size + 1), 42, (i6 a b c d x y)), (w.heap.size, 63, (r5 rs rf rl ra rb))] [(Af, (ints FLs))] wx))
   case first =>
    have HV := HK
    go_wp2_with (first
     | (refine wpList_load_row rfl 63 _ rfl w.heap.size rfl 63 #[.int .i64 rs, .int .i64 rf, .int .i64 rl, .int .i64 ra, .int .i64 rb] (0, 0) _ (HV.out.row w.heap.size 63 (r5 rs rf rl ra rb) (.tail _ (.tail _ (.tail _ (.tail _ (.tail _ (.tail _ (.tail _ (.tail _ (.tail _ (.head _))))))))))) Tryz.underlying63 rfl ?_ ?_; (kernel_rfl))
     | (refine wpList_load_row rfl 42 _ rfl g31 rfl 42 #[.int .i64 a, .int .i64 b, .int .i64 u0, .int .i64 u1, .int .i64 u2, .int .i64 u3] (0, 0) _ (HV.out.row g31 42 (i6 a b u0 u1 u2 u3) (.head _)) Tryz.underlying42 rfl ?_ ?_; (kernel_rfl))
     | (go_at_call 27; refine (hT2.out _).mono ?_; rintro e w2 ⟨rfl, hb⟩; replace HV := Lib.hid (HV.out.old hb); clear hb))
    go_meet
    exact ⟨rfl, rfl, rfl, HV⟩
   case rest =>
   clear HK
   obtain ⟨rfl, rfl, rfl, HK⟩ := hcut
   go_upto_region 31 with fail
   have c0 := show _ = some (Value.int .i64 dL) from ((HK.out.row g26 61 (i2 dL dH) (.tail _ (.tail _ (.head _)))).cell 0)
   have c1 := show _ = some (Value.int .i64 dH) from ((HK.out.row g26 61 (i2 dL dH) (.tail _ (.tail _ (.head _)))).cell 1)
   cases zO
   case false =>
    have q0 := hq2.out
    go_wp2_with fail
    go_ret
    exact ⟨rfl, HK.out.2.2.2⟩
   case true =>
    have q0 := hq2.out
    obtain ⟨r1, r2⟩ := hm.out rfl
    have y1 : ¬ m < dL := by omega
    have y2 : ¬ dH < m := by omega
    go_wp2_with fail
    go_ret
    exact ⟨rfl, HK.out.2.2.2⟩
end Go.Proofs.YtgbkblbfgknheaaGreatDoor
