import Derived.Test.YtaknlhepgeiekaaGreatDoorH42
import Derived.Test.YtaknlhepgeiekaaGreatDoorH43
namespace Go.Proofs.YtaknlhepgeiekaaGreatDoor
set_option linter.all false
open Go.RowKit Go.Fl
theorem use_row {P : Program} {md : Region.Mode} {ops : Array Oper} {Q : Exit → Act → World → Prop} {S : World → Prop} {fuel : Nat} {listed : Array Bool} {a : Act} {W : World} {g : Nat} {t : TypeId} {vs : List Value} (h : Row W g t vs) (k : Row W g t vs → wpAnyH P md ops Q S fuel listed a W) : wpAnyH P md ops Q S fuel listed a W := k h
set_option maxRecDepth 100000 in
set_option maxHeartbeats 16000000 in
theorem heard_law (a b c d x y p q r u fr fi l1 l2 h1 h2 m1 m2 j1 j2 : Int) (k0 k1 k2 k3 k4 k5 k6 k7 s0 s1 s2 s3 s4 s5 s6 s7 o0 o1 o2 o3 o4 o5 o6 o7 n0 n1 n2 n3 n4 n5 n6 n7 tq : Nat) (TX : ByteArray) (w : World) (hA : AwT w) (hn1 : ∀ W, Calls Tryz.prog 6 #[.agg #[.int .i64 a, .int .i64 b, .int .i64 c, .int .i64 d, .int .i64 x, .int .i64 y], .int .i64 5000] W fun e w' => e = .returned (.bool true) ∧ Below W.heap.size W w') (hn2 : ∀ W, Calls Tryz.prog 6 #[.agg #[.int .i64 1, .int .i64 0, .int .i64 p, .int .i64 q, .int .i64 r, .int .i64 u], .int .i64 1000] W fun e w' => e = .returned (.bool true) ∧ Below W.heap.size W w') (hn3 : ∀ W, Calls Tryz.prog 6 #[.agg #[.int .i64 1, .int .i64 0, .int .i64 fr, .int .i64 fi, .int .i64 0, .int .i64 0], .int .i64 1000] W fun e w' => e = .returned (.bool true) ∧ Below W.heap.size W w') (hSa : ∀ W, Calls Tryz.prog 8 #[.agg #[.int .i64 a, .int .i64 b, .int .i64 c, .int .i64 d, .int .i64 x, .int .i64 y]] W fun e w' => e = .returned (.tuple #[.agg #[.complex .f32 k0 k1, .complex .f32 k2 k3, .complex .f32 k4 k5, .complex .f32 k6 k7], .int .i64 0]) ∧ Below W.heap.size W w') (hRe : ∀ W, Calls Tryz.prog 9 #[.agg #[.complex .f32 k0 k1, .complex .f32 k2 k3, .complex .f32 k4 k5, .complex .f32 k6 k7]] W fun e w' => e = .returned (.tuple #[.agg #[.int .i64 a, .int .i64 b, .int .i64 c, .int .i64 d, .int .i64 x, .int .i64 y], .agg #[.int .i64 0, .int .i64 0], .int .i64 0]) ∧ Below W.heap.size W w') (hb0 : ∀ w, (binOp .add 30 (.complex .f32 k0 k1) (.complex .f32 (floatOfInt .f32 fr) (floatOfInt .f32 fi))).run Tryz.prog w = .ok (.complex .f32 s0 s1) w) (hb1 : ∀ w, (binOp .sub 30 (.complex .f32 k2 k3) (.complex .f32 (floatOfInt .f32 fr) (floatOfInt .f32 fi))).run Tryz.prog w = .ok (.complex .f32 s2 s3) w) (hb2 : ∀ w, (binOp .sub 30 (.complex .f32 k4 k5) (.complex .f32 (floatOfInt .f32 fr) (floatOfInt .f32 fi))).run Tryz.prog w = .ok (.complex .f32 s4 s5) w) (hb3 : ∀ w, (binOp .add 30 (.complex .f32 k6 k7) (.complex .f32 (floatOfInt .f32 fr) (floatOfInt .f32 fi))).run Tryz.prog w = .ok (.complex .f32 s6 s7) w) (hRe2 : ∀ W, Calls Tryz.prog 9 #[.agg #[.complex .f32 s0 s1, .complex .f32 s2 s3, .complex .f32 s4 s5, .complex .f32 s6 s7]] W fun e w' => e = .returned (.tuple #[.agg #[.int .i64 a, .int .i64 b, .int .i64 c, .int .i64 d, .int .i64 x, .int .i64 y], .agg #[.int .i64 fr, .int .i64 fi], .int .i64 0]) ∧ Below W.heap.size W w') (hP1 : ∀ W, Calls Tryz.prog 10 #[.agg #[.int .i64 c, .int .i64 d], .agg #[.int .i64 p, .int .i64 q]] W fun e w' => e = .returned (.agg #[.int .i64 l1, .int .i64 l2]) ∧ Below W.heap.size W w') (hP2 : ∀ W, Calls Tryz.prog 10 #[.agg #[.int .i64 x, .int .i64 y], .agg #[.int .i64 r, .int .i64 u]] W fun e w' => e = .returned (.agg #[.int .i64 h1, .int .i64 h2]) ∧ Below W.heap.size W w') (hM1 : ∀ W, Calls Tryz.prog 11 #[.agg #[.int .i64 c, .int .i64 d], .agg #[.int .i64 p, .int .i64 q]] W fun e w' => e = .returned (.agg #[.int .i64 m1, .int .i64 m2]) ∧ Below W.heap.size W w') (hM2 : ∀ W, Calls Tryz.prog 11 #[.agg #[.int .i64 x, .int .i64 y], .agg #[.int .i64 r, .int .i64 u]] W fun e w' => e = .returned (.agg #[.int .i64 j1, .int .i64 j2]) ∧ Below W.heap.size W w') (hSo : ∀ W, Calls Tryz.prog 8 #[.agg #[.int .i64 a, .int .i64 b, .int .i64 l1, .int .i64 l2, .int .i64 h1, .int .i64 h2]] W fun e w' => e = .returned (.tuple #[.agg #[.complex .f32 o0 o1, .complex .f32 o2 o3, .complex .f32 o4 o5, .complex .f32 o6 o7], .int .i64 0]) ∧ Below W.heap.size W w') (hSu : ∀ W, Calls Tryz.prog 8 #[.agg #[.int .i64 a, .int .i64 b, .int .i64 m1, .int .i64 m2, .int .i64 j1, .int .i64 j2]] W fun e w' => e = .returned (.tuple #[.agg #[.complex .f32 n0 n1, .complex .f32 n2 n3, .complex .f32 n4 n5, .complex .f32 n6 n7], .int .i64 0]) ∧ Below W.heap.size W w') (hAv : ∀ As cs W, Rd W As [.complex .f32 o0 o1, .complex .f32 o2 o3, .complex .f32 o4 o5, .complex .f32 o6 o7, .complex .f32 k0 k1, .complex .f32 k2 k3, .complex .f32 k4 k5, .complex .f32 k6 k7, .complex .f32 n0 n1, .complex .f32 n2 n3, .complex .f32 n4 n5, .complex .f32 n6 n7] → Calls Tryz.prog 12 #[.slice As 3 cs] W fun e w' => e = .returned (.tuple #[.agg #[.int .i64 a, .int .i64 b, .int .i64 c, .int .i64 d, .int .i64 x, .int .i64 y], .agg #[.int .i64 0, .int .i64 0], .int .i64 0]) ∧ Below W.heap.size W w') (hSg : ∀ As cs W, Rd W As [.int .i64 a, .int .i64 b, .int .i64 c, .int .i64 d, .int .i64 x, .int .i64 y, .int .i64 a, .int .i64 b, .int .i64 l1, .int .i64 l2, .int .i64 h1, .int .i64 h2] → Calls Tryz.prog 14 #[.slice As 2 cs] W fun e w' => ∃ At ct, e = .returned (.slice At 2 ct) ∧ Rd w' At [.int .i64 a, .int .i64 b, .int .i64 c, .int .i64 d, .int .i64 x, .int .i64 y, .int .i64 a, .int .i64 b, .int .i64 l1, .int .i64 l2, .int .i64 h1, .int .i64 h2] ∧ Below W.heap.size W w') (hPr : ∀ As cs W, AwT W → Rd W As [.int .i64 a, .int .i64 b, .int .i64 c, .int .i64 d, .int .i64 x, .int .i64 y, .int .i64 a, .int .i64 b, .int .i64 l1, .int .i64 l2, .int .i64 h1, .int .i64 h2] → Calls Tryz.prog 13 #[.slice As 2 cs] W fun e w' => e = .returned (.tuple #[.string TX, .int .i64 0]) ∧ Below W.heap.size W w') (hPa : ∀ W, AwT W → Calls Tryz.prog 15 #[.string TX] W fun e w' => ∃ Ay cy, e = .returned (.tuple #[.slice Ay 2 cy, .int .i64 0, .int .i64 0]) ∧ Rd w' Ay [.int .i64 a, .int .i64 b, .int .i64 c, .int .i64 d, .int .i64 x, .int .i64 y, .int .i64 a, .int .i64 b, .int .i64 l1, .int .i64 l2, .int .i64 h1, .int .i64 h2] ∧ Below W.heap.size W w') (hTo : ∀ As cs W, Rd W As [.int .i64 a, .int .i64 b, .int .i64 c, .int .i64 d, .int .i64 x, .int .i64 y, .int .i64 a, .int .i64 b, .int .i64 l1, .int .i64 l2, .int .i64 h1, .int .i64 h2] → Calls Tryz.prog 17 #[.slice As 2 cs] W fun e w' => ∃ At ct, e = .returned (.slice At 2 ct) ∧ Rd w' At [.int .i64 a, .int .i64 b, .int .i64 c, .int .i64 d, .int .i64 x, .int .i64 y, .int .i64 a, .int .i64 b, .int .i64 l1, .int .i64 l2, .int .i64 h1, .int .i64 h2] ∧ Below W.heap.size W w') (hSm : ∀ As cs Bs ds W, Rd W As [.int .i64 a, .int .i64 b, .int .i64 c, .int .i64 d, .int .i64 x, .int .i64 y, .int .i64 a, .int .i64 b, .int .i64 l1, .int .i64 l2, .int .i64 h1, .int .i64 h2] → Rd W Bs [.int .i64 a, .int .i64 b, .int .i64 c, .int .i64 d, .int .i64 x, .int .i64 y, .int .i64 a, .int .i64 b, .int .i64 l1, .int .i64 l2, .int .i64 h1, .int .i64 h2] → Calls Tryz.prog 16 #[.slice As 2 cs, .slice Bs 2 ds] W fun e w' => e = .returned (.bool true) ∧ Below W.heap.size W w') (hSp : ∀ W, Calls Tryz.prog 18 #[.string TX, .int .u8 10] W fun e w' => ∃ At ct, e = .returned (.slice At 3 ct) ∧ Below W.heap.size W w') (hz1 : (TX.size : Int) - 1 = (tq : Int)) (hz2 : (tq : Int) ≤ (TX.size : Int)) (hz3 : IntKind.i64.wrap (tq : Int) = (tq : Int)) (hPa2 : ∀ W, AwT W → Calls Tryz.prog 15 #[.string (TX.extract 0 tq)] W fun e w' => ∃ Ay ny cy, e = .returned (.tuple #[.slice Ay ny cy, .int .i64 1, .int .i64 25]) ∧ Below W.heap.size W w') : Calls Tryz.prog 3 #[.agg #[.int .i64 a, .int .i64 b, .int .i64 c, .int .i64 d, .int .i64 x, .int .i64 y], .agg #[.int .i64 p, .int .i64 q, .int .i64 r, .int .i64 u], .agg #[.int .i64 fr, .int .i64 fi]] w fun e w' => e = .returned (.bool true) ∧ Below w.heap.size w w' := by
 have HK : Hid (KpT w [((w.heap.size + 1 + 1), 23, [.int .i64 fr, .int .i64 fi]), ((w.heap.size + 1), 26, [.int .i64 p, .int .i64 q, .int .i64 r, .int .i64 u]), (w.heap.size, 25, [.int .i64 a, .int .i64 b, .int .i64 c, .int .i64 d, .int .i64 x, .int .i64 y])] [] (((w.alloc (.cells #[.int .i64 a, .int .i64 b, .int .i64 c, .int .i64 d, .int .i64 x, .int .i64 y] 25)).alloc (.cells #[.int .i64 p, .int .i64 q, .int .i64 r, .int .i64 u] 26)).alloc (.cells #[.int .i64 fr, .int .i64 fi] 23))) := Lib.hid (KpT.cons (KpT.cons (KpT.cons (KpT.old (V := w) ⟨hA, fun r h => (List.not_mem_nil h).elim, fun r h => (List.not_mem_nil h).elim, Below.refl _ _⟩ ((((Below.refl _ _).alloc (Nat.le_refl _) _).alloc (by simp) _).alloc (by simp only [World.size_alloc]; omega) _)) (((Row.new w 25 [.int .i64 a, .int .i64 b, .int .i64 c, .int .i64 d, .int .i64 x, .int .i64 y]).alloc _).alloc _)) (row2.alloc _)) row3)
 replace hn1 := Lib.hid hn1
 replace hn2 := Lib.hid hn2
 replace hn3 := Lib.hid hn3
 replace hSa := Lib.hid hSa
 replace hRe := Lib.hid hRe
 replace hb0 := Lib.hid hb0
 replace hb1 := Lib.hid hb1
 replace hb2 := Lib.hid hb2
 replace hb3 := Lib.hid hb3
 replace hRe2 := Lib.hid hRe2
 replace hP1 := Lib.hid hP1
 replace hP2 := Lib.hid hP2
 replace hM1 := Lib.hid hM1
 replace hM2 := Lib.hid hM2
 replace hSo := Lib.hid hSo
 replace hSu := Lib.hid hSu
 replace hAv := Lib.hid hAv
 replace hSg := Lib.hid hSg
 replace hPr := Lib.hid hPr
 replace hPa := Lib.hid hPa
 replace hTo := Lib.hid hTo
 replace hSm := Lib.hid hSm
 replace hSp := Lib.hid hSp
 replace hz1 := Lib.hid hz1
 replace hz2 := Lib.hid hz2
 replace hz3 := Lib.hid hz3
 replace hPa2 := Lib.hid hPa2
 clear hA
 go_enter Tryz.func3, Tryz.ntmps3
 go_upto_region 1 with fail
 refine genT (fun V => KpT w [((w.heap.size + 1 + 1), 23, [.int .i64 fr, .int .i64 fi]), ((w.heap.size + 1), 26, [.int .i64 p, .int .i64 q, .int .i64 r, .int .i64 u]), (w.heap.size, 25, [.int .i64 a, .int .i64 b, .int .i64 c, .int .i64 d, .int .i64 x, .int .i64 y])] [] V) HK.out ?_
 clear HK
 intro wc s0
 have HK := Lib.hid s0
 clear s0
 go_cut [57] from 34 to 56 (fun s57 wx => s57 = .bool false ∧ Hid (KpT w [((w.heap.size + 1 + 1), 23, [.int .i64 fr, .int .i64 fi]), ((w.heap.size + 1), 26, [.int .i64 p, .int .i64 q, .int .i64 r, .int .i64 u]), (w.heap.size, 25, [.int .i64 a, .int .i64 b, .int .i64 c, .int .i64 d, .int .i64 x, .int .i64 y])] [] wx))
 case first =>
  refine wp_region_held_drew (S := fun V => Below wc.heap.size wc V) (by kernel_rfl) ?_ (fun hHeld => ?_)
  · exact (Below.refl _ _).drew
  refine st2 0 (fun K hK => ?_)
  go_simp
  go_at_call 5
  refine (awake_ok _ (HK.out.old hHeld).1).mono ?_
  rintro e v0 ⟨rfl, hb0⟩
  have hz0 := hb0.size
  try simp only [World.size_alloc, size_drewT] at hz0
  try go_simp
  refine hK.out _ _ ?_ (fun hHeld => ?_)
  · exact hHeld.trans (hb0.mono hHeld.size)
  clear hK K
  try simp only [zz]
  refine ta 1 35 hHeld ?_
  try simp only [zz]
  refine ta 2 36 hHeld ?_
  try simp only [zz]
  refine tk 3 37 (.agg #[.int .i64 a, .int .i64 b, .int .i64 c, .int .i64 d, .int .i64 x, .int .i64 y]) rfl (by kernel_rfl) (fun _ _ _ h => h) (by kernel_rfl) (fun V hV => ex_rowT 25 _ rfl (w.heap.size) rfl 25 [.int .i64 a, .int .i64 b, .int .i64 c, .int .i64 d, .int .i64 x, .int .i64 y] _ Tryz.underlying25 rfl (by kernel_rfl) ((HK.out.old hV).row _ _ _ (.tail _ (.tail _ (.head _))))) hHeld ?_
  try simp only [zz]
  refine st2 4 (fun K hK => ?_)
  go_simp
  go_at_call 6
  refine (hn1.out _).mono ?_
  rintro e v4 ⟨rfl, hb4⟩
  have hz4 := hb4.size
  try simp only [World.size_alloc, size_drewT] at hz4
  try go_simp
  refine hK.out _ _ ?_ (fun hHeld => ?_)
  · exact hHeld.trans (hb4.mono hHeld.size)
  clear hK K
  try simp only [zz]
  refine ta 5 39 hHeld ?_
  try simp only [zz]
  refine ta 6 40 hHeld ?_
  try simp only [zz]
  refine ta 7 41 hHeld ?_
  try simp only [zz]
  refine ta 9 43 hHeld ?_
  try simp only [zz]
  refine tk 10 44 (.agg #[.int .i64 p, .int .i64 q]) rfl (by kernel_rfl) (fun _ _ _ h => h) (by kernel_rfl) (fun V hV => ex_Gauss _ rfl ((w.heap.size + 1)) 0 rfl (((HK.out.old hV).row _ _ _ (.tail _ (.head _))).cell 0) (((HK.out.old hV).row _ _ _ (.tail _ (.head _))).cell 1)) hHeld ?_
  try simp only [zz]
  refine ta 11 45 hHeld ?_
  try simp only [zz]
  refine tk 12 46 (.agg #[.int .i64 r, .int .i64 u]) rfl (by kernel_rfl) (fun _ _ _ h => h) (by kernel_rfl) (fun V hV => ex_Gauss _ rfl ((w.heap.size + 1)) 2 rfl (((HK.out.old hV).row _ _ _ (.tail _ (.head _))).cell 2) (((HK.out.old hV).row _ _ _ (.tail _ (.head _))).cell 3)) hHeld ?_
  try simp only [zz]
  refine st2 8 (fun K hK => ?_)
  go_simp
  go_at_call 7
  refine (at2_any _ _ _).mono ?_
  rintro e v8 ⟨rfl, hb8⟩
  have hz8 := hb8.size
  try simp only [World.size_alloc, size_drewT] at hz8
  try go_simp
  refine hK.out _ _ ?_ (fun hHeld => ?_)
  · exact hHeld.trans (hb8.mono hHeld.size)
  clear hK K
  try simp only [zz]
  refine ta 13 47 hHeld ?_
  try simp only [zz]
  refine st2 14 (fun K hK => ?_)
  go_simp
  go_at_call 6
  refine (hn2.out _).mono ?_
  rintro e v14 ⟨rfl, hb14⟩
  have hz14 := hb14.size
  try simp only [World.size_alloc, size_drewT] at hz14
  try go_simp
  refine hK.out _ _ ?_ (fun hHeld => ?_)
  · exact hHeld.trans (hb14.mono hHeld.size)
  clear hK K
  try simp only [zz]
  refine ta 15 49 hHeld ?_
  try simp only [zz]
  refine ta 16 50 hHeld ?_
  try simp only [zz]
  refine ta 17 51 hHeld ?_
  try simp only [zz]
  refine tk 19 53 (.agg #[.int .i64 fr, .int .i64 fi]) rfl (by kernel_rfl) (fun _ _ _ h => h) (by kernel_rfl) (fun V hV => ex_Gauss _ rfl ((w.heap.size + 1 + 1)) 0 rfl (((HK.out.old hV).row _ _ _ (.head _)).cell 0) (((HK.out.old hV).row _ _ _ (.head _)).cell 1)) hHeld ?_
  try simp only [zz]
  refine st2 18 (fun K hK => ?_)
  go_simp
  go_at_call 7
  refine (at2_any _ _ _).mono ?_
  rintro e v18 ⟨rfl, hb18⟩
  have hz18 := hb18.size
  try simp only [World.size_alloc, size_drewT] at hz18
  try go_simp
  refine hK.out _ _ ?_ (fun hHeld => ?_)
  · exact hHeld.trans (hb18.mono hHeld.size)
  clear hK K
  try simp only [zz]
  refine ta 20 54 hHeld ?_
  try simp only [zz]
  refine st2 21 (fun K hK => ?_)
  go_simp
  go_at_call 6
  refine (hn3.out _).mono ?_
  rintro e v21 ⟨rfl, hb21⟩
  have hz21 := hb21.size
  try simp only [World.size_alloc, size_drewT] at hz21
  try go_simp
  refine hK.out _ _ ?_ (fun hHeld => ?_)
  · exact hHeld.trans (hb21.mono hHeld.size)
  clear hK K
  try simp only [zz]
  refine ta 22 56 hHeld ?_
  try simp only [zz]
  refine ta 23 57 hHeld ?_
  try simp only [zz]
  refine wpAnyH_done (by kernel_rfl) ?_ _
  go_wp2_with fail
  go_meet
  exact ⟨rfl, Lib.hid (HK.out.old hHeld)⟩
 case rest =>
 clear HK
 obtain ⟨rfl, HK⟩ := hcut
 go_upto_region 3 with fail
 go_cut [7, 8] from 59 to 63 (fun s7 s8 wx => ∃ g7, s7 = .pointer (some ⟨g7, 0, none⟩) ∧ s8 = .int .i64 0 ∧ Hid (KpT w [(g7, 31, [.complex .f32 k0 k1, .complex .f32 k2 k3, .complex .f32 k4 k5, .complex .f32 k6 k7]), ((w.heap.size + 1 + 1), 23, [.int .i64 fr, .int .i64 fi]), ((w.heap.size + 1), 26, [.int .i64 p, .int .i64 q, .int .i64 r, .int .i64 u]), (w.heap.size, 25, [.int .i64 a, .int .i64 b, .int .i64 c, .int .i64 d, .int .i64 x, .int .i64 y])] [] wx))
 case first =>
  have HV := HK
  go_wp2_with (first
   | (refine wpList_load_row rfl 25 _ rfl w.heap.size rfl 25 #[.int .i64 a, .int .i64 b, .int .i64 c, .int .i64 d, .int .i64 x, .int .i64 y] (0, 0) _ (HV.out.row _ _ _ (.tail _ (.tail _ (.head _)))) Tryz.underlying25 rfl ?_ ?_; (kernel_rfl))
   | (go_at_call 8; refine (hSa.out _).mono ?_; rintro e w2 ⟨rfl, hb⟩; replace HV := Lib.hid (HV.out.old hb); clear hb)
   | (refine wpList_store_row rfl 31 _ _ rfl (w2.heap.size) #[.complex .f32 k0 k1, .complex .f32 k2 k3, .complex .f32 k4 k5, .complex .f32 k6 k7] rfl rfl 31 _ (Row.new w2 31 [.complex .f32 0 0, .complex .f32 0 0, .complex .f32 0 0, .complex .f32 0 0]) ?_ ?_ ?_ ?_; (kernel_rfl); (rfl); (simp [Value.oneCell'])))
  go_meet
  exact ⟨_, rfl, rfl, Lib.hid (KpT.cons (HV.out.old (Below.setRow ((Below.refl _ _).alloc (Nat.le_refl _) _) (Nat.le_refl _) _)) ((Row.new w2 31 [.complex .f32 0 0, .complex .f32 0 0, .complex .f32 0 0, .complex .f32 0 0]).setRow [.complex .f32 k0 k1, .complex .f32 k2 k3, .complex .f32 k4 k5, .complex .f32 k6 k7]))⟩
 case rest =>
 clear HK
 obtain ⟨g7, rfl, rfl, HK⟩ := hcut
 go_upto_region 4 with fail
 go_cut [9, 10, 11] from 64 to 69 (fun s9 s10 s11 wx => ∃ g9 g10, s9 = .pointer (some ⟨g9, 0, none⟩) ∧ s10 = .pointer (some ⟨g10, 0, none⟩) ∧ s11 = .int .i64 0 ∧ Hid (KpT w [(g10, 23, [.int .i64 0, .int .i64 0]), (g9, 35, [.int .i64 a, .int .i64 b, .int .i64 c, .int .i64 d, .int .i64 x, .int .i64 y]), (g7, 31, [.complex .f32 k0 k1, .complex .f32 k2 k3, .complex .f32 k4 k5, .complex .f32 k6 k7]), ((w.heap.size + 1 + 1), 23, [.int .i64 fr, .int .i64 fi]), ((w.heap.size + 1), 26, [.int .i64 p, .int .i64 q, .int .i64 r, .int .i64 u]), (w.heap.size, 25, [.int .i64 a, .int .i64 b, .int .i64 c, .int .i64 d, .int .i64 x, .int .i64 y])] [] wx))
 case first =>
  have HV := HK
  go_wp2_with (first
   | (refine wpList_load_row rfl 31 _ rfl g7 rfl 31 #[.complex .f32 k0 k1, .complex .f32 k2 k3, .complex .f32 k4 k5, .complex .f32 k6 k7] (0, 0) _ (HV.out.row _ _ _ (.head _)) Tryz.underlying31 rfl ?_ ?_; (kernel_rfl))
   | (go_at_call 9; refine (hRe.out _).mono ?_; rintro e w2 ⟨rfl, hb⟩; replace HV := Lib.hid (HV.out.old hb); clear hb)
   | (refine wpList_store_row rfl 35 _ _ rfl (w2.heap.size) #[.int .i64 a, .int .i64 b, .int .i64 c, .int .i64 d, .int .i64 x, .int .i64 y] rfl rfl 35 _ ((Row.new w2 35 [.int .i64 0, .int .i64 0, .int .i64 0, .int .i64 0, .int .i64 0, .int .i64 0]).alloc (.cells ([.int .i64 0, .int .i64 0] : List Value).toArray 23)) ?_ ?_ ?_ ?_; (kernel_rfl); (rfl); (simp [Value.oneCell']))
   | (refine wpList_store_row rfl 23 _ _ rfl (w2.heap.size + 1) #[.int .i64 0, .int .i64 0] rfl rfl 23 _ ((row2 (w := w2) (t1 := 35) (t2 := 23) (L1 := [.int .i64 0, .int .i64 0, .int .i64 0, .int .i64 0, .int .i64 0, .int .i64 0]) (L2 := [.int .i64 0, .int .i64 0])).farRow (by omega : w2.heap.size + 1 ≠ w2.heap.size) #[.int .i64 a, .int .i64 b, .int .i64 c, .int .i64 d, .int .i64 x, .int .i64 y]) ?_ ?_ ?_ ?_; (kernel_rfl); (rfl); (simp [Value.oneCell'])))
  go_meet
  exact ⟨_, _, rfl, rfl, rfl, Lib.hid (KpT.cons (KpT.cons (HV.out.old (Below.setRow (Below.setRow (((Below.refl _ _).alloc (Nat.le_refl _) _).alloc (by simp) _) (Nat.le_refl _) _) (by omega) _)) ((((Row.new w2 35 [.int .i64 0, .int .i64 0, .int .i64 0, .int .i64 0, .int .i64 0, .int .i64 0]).alloc (.cells ([.int .i64 0, .int .i64 0] : List Value).toArray 23)).setRow [.int .i64 a, .int .i64 b, .int .i64 c, .int .i64 d, .int .i64 x, .int .i64 y]).farRow (by omega) _)) (((row2 (w := w2) (t1 := 35) (t2 := 23) (L1 := [.int .i64 0, .int .i64 0, .int .i64 0, .int .i64 0, .int .i64 0, .int .i64 0]) (L2 := [.int .i64 0, .int .i64 0])).farRow (by omega : w2.heap.size + 1 ≠ w2.heap.size) #[.int .i64 a, .int .i64 b, .int .i64 c, .int .i64 d, .int .i64 x, .int .i64 y]).setRow [.int .i64 0, .int .i64 0]))⟩
 case rest =>
 clear HK
 obtain ⟨g9, g10, rfl, rfl, rfl, HK⟩ := hcut
 go_upto_region 5 with fail
 go_cut [85] from 70 to 84 (fun s85 wx => s85 = .bool false ∧ Hid (KpT w [(g10, 23, [.int .i64 0, .int .i64 0]), (g9, 35, [.int .i64 a, .int .i64 b, .int .i64 c, .int .i64 d, .int .i64 x, .int .i64 y]), (g7, 31, [.complex .f32 k0 k1, .complex .f32 k2 k3, .complex .f32 k4 k5, .complex .f32 k6 k7]), ((w.heap.size + 1 + 1), 23, [.int .i64 fr, .int .i64 fi]), ((w.heap.size + 1), 26, [.int .i64 p, .int .i64 q, .int .i64 r, .int .i64 u]), (w.heap.size, 25, [.int .i64 a, .int .i64 b, .int .i64 c, .int .i64 d, .int .i64 x, .int .i64 y])] [] wx))
 case first =>
  have HV := HK
  have q1 := neqTS_self a b c d x y
  have q2 : ∀ w, (binOp .neq 23 (.agg #[.int .i64 0, .int .i64 0]) (.agg #[.int .i64 0, .int .i64 0])).run Tryz.prog w = .ok (.bool false) w := fun w => neqG 0 0 0 0 w
  have e00 := ((HK.out.row _ _ _ (.tail _ (.head _))).cell 0)
  have e01 := ((HK.out.row _ _ _ (.tail _ (.head _))).cell 1)
  have e02 := ((HK.out.row _ _ _ (.tail _ (.head _))).cell 2)
  have e03 := ((HK.out.row _ _ _ (.tail _ (.head _))).cell 3)
  have e04 := ((HK.out.row _ _ _ (.tail _ (.head _))).cell 4)
  have e05 := ((HK.out.row _ _ _ (.tail _ (.head _))).cell 5)
  have e10 := ((HK.out.row _ _ _ (.tail _ (.tail _ (.tail _ (.tail _ (.tail _ (.head _))))))).cell 0)
  have e11 := ((HK.out.row _ _ _ (.tail _ (.tail _ (.tail _ (.tail _ (.tail _ (.head _))))))).cell 1)
  have e12 := ((HK.out.row _ _ _ (.tail _ (.tail _ (.tail _ (.tail _ (.tail _ (.head _))))))).cell 2)
  have e13 := ((HK.out.row _ _ _ (.tail _ (.tail _ (.tail _ (.tail _ (.tail _ (.head _))))))).cell 3)
  have e14 := ((HK.out.row _ _ _ (.tail _ (.tail _ (.tail _ (.tail _ (.tail _ (.head _))))))).cell 4)
  have e15 := ((HK.out.row _ _ _ (.tail _ (.tail _ (.tail _ (.tail _ (.tail _ (.head _))))))).cell 5)
  have e20 := ((HK.out.row _ _ _ (.head _)).cell 0)
  have e21 := ((HK.out.row _ _ _ (.head _)).cell 1)
  simp only [List.getElem?_cons_succ, List.getElem?_cons_zero] at e00 e01 e02 e03 e04 e05 e10 e11 e12 e13 e14 e15 e20 e21
  go_wp2_with fail
  all_goals (go_meet; exact ⟨rfl, HK⟩)
 case rest =>
 clear HK
 obtain ⟨rfl, HK⟩ := hcut
 go_upto_region 7 with fail
 go_cut [12] from 86 to 92 (fun s12 wx => s12 = .complex .f32 (floatOfInt .f32 fr) (floatOfInt .f32 fi) ∧ Hid (KpT w [(g10, 23, [.int .i64 0, .int .i64 0]), (g9, 35, [.int .i64 a, .int .i64 b, .int .i64 c, .int .i64 d, .int .i64 x, .int .i64 y]), (g7, 31, [.complex .f32 k0 k1, .complex .f32 k2 k3, .complex .f32 k4 k5, .complex .f32 k6 k7]), ((w.heap.size + 1 + 1), 23, [.int .i64 fr, .int .i64 fi]), ((w.heap.size + 1), 26, [.int .i64 p, .int .i64 q, .int .i64 r, .int .i64 u]), (w.heap.size, 25, [.int .i64 a, .int .i64 b, .int .i64 c, .int .i64 d, .int .i64 x, .int .i64 y])] [] wx))
 case first =>
  have HV := HK
  have c0 := ((HK.out.row _ _ _ (.tail _ (.tail _ (.tail _ (.head _))))).cell 0)
  have c1 := ((HK.out.row _ _ _ (.tail _ (.tail _ (.tail _ (.head _))))).cell 1)
  simp only [List.getElem?_cons_succ, List.getElem?_cons_zero] at c0 c1
  go_wp2_with fail
  go_meet
  exact ⟨rfl, HV⟩
 case rest =>
 clear HK
 obtain ⟨rfl, HK⟩ := hcut
 go_upto_region 8 with fail
 go_cut [13, 14, 15] from 93 to 114 (fun s13 s14 s15 wx => ∃ g13 g14, s13 = .pointer (some ⟨g13, 0, none⟩) ∧ s14 = .pointer (some ⟨g14, 0, none⟩) ∧ s15 = .int .i64 0 ∧ Hid (KpT w [(g14, 23, [.int .i64 fr, .int .i64 fi]), (g13, 35, [.int .i64 a, .int .i64 b, .int .i64 c, .int .i64 d, .int .i64 x, .int .i64 y]), (g10, 23, [.int .i64 0, .int .i64 0]), (g9, 35, [.int .i64 a, .int .i64 b, .int .i64 c, .int .i64 d, .int .i64 x, .int .i64 y]), (g7, 31, [.complex .f32 k0 k1, .complex .f32 k2 k3, .complex .f32 k4 k5, .complex .f32 k6 k7]), ((w.heap.size + 1 + 1), 23, [.int .i64 fr, .int .i64 fi]), ((w.heap.size + 1), 26, [.int .i64 p, .int .i64 q, .int .i64 r, .int .i64 u]), (w.heap.size, 25, [.int .i64 a, .int .i64 b, .int .i64 c, .int .i64 d, .int .i64 x, .int .i64 y])] [] wx))
 case first =>
  have HV := HK
  have c0 := ((HK.out.row _ _ _ (.tail _ (.tail _ (.head _)))).cell 0)
  have c1 := ((HK.out.row _ _ _ (.tail _ (.tail _ (.head _)))).cell 1)
  have c2 := ((HK.out.row _ _ _ (.tail _ (.tail _ (.head _)))).cell 2)
  have c3 := ((HK.out.row _ _ _ (.tail _ (.tail _ (.head _)))).cell 3)
  simp only [List.getElem?_cons_succ, List.getElem?_cons_zero] at c0 c1 c2 c3
  have b0 := hb0.out; have b1 := hb1.out; have b2 := hb2.out; have b3 := hb3.out
  go_wp2_with (first
   | (go_at_call 9; refine (hRe2.out _).mono ?_; rintro e w2 ⟨rfl, hb⟩; replace HV := Lib.hid (HV.out.old hb); clear hb)
   | (refine wpList_store_row rfl 35 _ _ rfl (w2.heap.size) #[.int .i64 a, .int .i64 b, .int .i64 c, .int .i64 d, .int .i64 x, .int .i64 y] rfl rfl 35 _ ((Row.new w2 35 [.int .i64 0, .int .i64 0, .int .i64 0, .int .i64 0, .int .i64 0, .int .i64 0]).alloc (.cells ([.int .i64 0, .int .i64 0] : List Value).toArray 23)) ?_ ?_ ?_ ?_; (kernel_rfl); (rfl); (simp [Value.oneCell']))
   | (refine wpList_store_row rfl 23 _ _ rfl (w2.heap.size + 1) #[.int .i64 fr, .int .i64 fi] rfl rfl 23 _ ((row2 (w := w2) (t1 := 35) (t2 := 23) (L1 := [.int .i64 0, .int .i64 0, .int .i64 0, .int .i64 0, .int .i64 0, .int .i64 0]) (L2 := [.int .i64 0, .int .i64 0])).farRow (by omega : w2.heap.size + 1 ≠ w2.heap.size) #[.int .i64 a, .int .i64 b, .int .i64 c, .int .i64 d, .int .i64 x, .int .i64 y]) ?_ ?_ ?_ ?_; (kernel_rfl); (rfl); (simp [Value.oneCell'])))
  go_meet
  exact ⟨_, _, rfl, rfl, rfl, Lib.hid (KpT.cons (KpT.cons (HV.out.old (Below.setRow (Below.setRow (((Below.refl _ _).alloc (Nat.le_refl _) _).alloc (by simp) _) (Nat.le_refl _) _) (by omega) _)) ((((Row.new w2 35 [.int .i64 0, .int .i64 0, .int .i64 0, .int .i64 0, .int .i64 0, .int .i64 0]).alloc (.cells ([.int .i64 0, .int .i64 0] : List Value).toArray 23)).setRow [.int .i64 a, .int .i64 b, .int .i64 c, .int .i64 d, .int .i64 x, .int .i64 y]).farRow (by omega) _)) (((row2 (w := w2) (t1 := 35) (t2 := 23) (L1 := [.int .i64 0, .int .i64 0, .int .i64 0, .int .i64 0, .int .i64 0, .int .i64 0]) (L2 := [.int .i64 0, .int .i64 0])).farRow (by omega : w2.heap.size + 1 ≠ w2.heap.size) #[.int .i64 a, .int .i64 b, .int .i64 c, .int .i64 d, .int .i64 x, .int .i64 y]).setRow [.int .i64 fr, .int .i64 fi]))⟩
 case rest =>
 clear HK
 obtain ⟨g13, g14, rfl, rfl, rfl, HK⟩ := hcut
 go_upto_region 9 with fail
 go_cut [126] from 115 to 125 (fun s126 wx => s126 = .bool false ∧ Hid (KpT w [(g14, 23, [.int .i64 fr, .int .i64 fi]), (g13, 35, [.int .i64 a, .int .i64 b, .int .i64 c, .int .i64 d, .int .i64 x, .int .i64 y]), (g10, 23, [.int .i64 0, .int .i64 0]), (g9, 35, [.int .i64 a, .int .i64 b, .int .i64 c, .int .i64 d, .int .i64 x, .int .i64 y]), (g7, 31, [.complex .f32 k0 k1, .complex .f32 k2 k3, .complex .f32 k4 k5, .complex .f32 k6 k7]), ((w.heap.size + 1 + 1), 23, [.int .i64 fr, .int .i64 fi]), ((w.heap.size + 1), 26, [.int .i64 p, .int .i64 q, .int .i64 r, .int .i64 u]), (w.heap.size, 25, [.int .i64 a, .int .i64 b, .int .i64 c, .int .i64 d, .int .i64 x, .int .i64 y])] [] wx))
 case first =>
  have HV := HK
  have q1 := neqTS_self a b c d x y
  have q2 : ∀ w, (binOp .neq 23 (.agg #[.int .i64 fr, .int .i64 fi]) (.agg #[.int .i64 fr, .int .i64 fi])).run Tryz.prog w = .ok (.bool false) w := fun w => by rw [neqG]; simp
  have e00 := ((HK.out.row _ _ _ (.tail _ (.head _))).cell 0)
  have e01 := ((HK.out.row _ _ _ (.tail _ (.head _))).cell 1)
  have e02 := ((HK.out.row _ _ _ (.tail _ (.head _))).cell 2)
  have e03 := ((HK.out.row _ _ _ (.tail _ (.head _))).cell 3)
  have e04 := ((HK.out.row _ _ _ (.tail _ (.head _))).cell 4)
  have e05 := ((HK.out.row _ _ _ (.tail _ (.head _))).cell 5)
  have e10 := ((HK.out.row _ _ _ (.tail _ (.tail _ (.tail _ (.tail _ (.tail _ (.tail _ (.tail _ (.head _))))))))).cell 0)
  have e11 := ((HK.out.row _ _ _ (.tail _ (.tail _ (.tail _ (.tail _ (.tail _ (.tail _ (.tail _ (.head _))))))))).cell 1)
  have e12 := ((HK.out.row _ _ _ (.tail _ (.tail _ (.tail _ (.tail _ (.tail _ (.tail _ (.tail _ (.head _))))))))).cell 2)
  have e13 := ((HK.out.row _ _ _ (.tail _ (.tail _ (.tail _ (.tail _ (.tail _ (.tail _ (.tail _ (.head _))))))))).cell 3)
  have e14 := ((HK.out.row _ _ _ (.tail _ (.tail _ (.tail _ (.tail _ (.tail _ (.tail _ (.tail _ (.head _))))))))).cell 4)
  have e15 := ((HK.out.row _ _ _ (.tail _ (.tail _ (.tail _ (.tail _ (.tail _ (.tail _ (.tail _ (.head _))))))))).cell 5)
  have e20 := ((HK.out.row _ _ _ (.head _)).cell 0)
  have e21 := ((HK.out.row _ _ _ (.head _)).cell 1)
  have e30 := ((HK.out.row _ _ _ (.tail _ (.tail _ (.tail _ (.tail _ (.tail _ (.head _))))))).cell 0)
  have e31 := ((HK.out.row _ _ _ (.tail _ (.tail _ (.tail _ (.tail _ (.tail _ (.head _))))))).cell 1)
  simp only [List.getElem?_cons_succ, List.getElem?_cons_zero] at e00 e01 e02 e03 e04 e05 e10 e11 e12 e13 e14 e15 e20 e21 e30 e31
  go_wp2_with fail
  all_goals (go_meet; exact ⟨rfl, HK⟩)
 case rest =>
 clear HK
 obtain ⟨rfl, HK⟩ := hcut
 go_upto_region 11 with fail
 go_cut [16] from 127 to 139 (fun s16 wx => ∃ g16, s16 = .pointer (some ⟨g16, 0, none⟩) ∧ Hid (KpT w [(g16, 25, [.int .i64 a, .int .i64 b, .int .i64 l1, .int .i64 l2, .int .i64 h1, .int .i64 h2]), (g14, 23, [.int .i64 fr, .int .i64 fi]), (g13, 35, [.int .i64 a, .int .i64 b, .int .i64 c, .int .i64 d, .int .i64 x, .int .i64 y]), (g10, 23, [.int .i64 0, .int .i64 0]), (g9, 35, [.int .i64 a, .int .i64 b, .int .i64 c, .int .i64 d, .int .i64 x, .int .i64 y]), (g7, 31, [.complex .f32 k0 k1, .complex .f32 k2 k3, .complex .f32 k4 k5, .complex .f32 k6 k7]), ((w.heap.size + 1 + 1), 23, [.int .i64 fr, .int .i64 fi]), ((w.heap.size + 1), 26, [.int .i64 p, .int .i64 q, .int .i64 r, .int .i64 u]), (w.heap.size, 25, [.int .i64 a, .int .i64 b, .int .i64 c, .int .i64 d, .int .i64 x, .int .i64 y])] [] wx))
 case first =>
  refine wp_region_held_drew (S := fun V => Below wc.heap.size wc V) (by kernel_rfl) ?_ (fun hHeld => ?_)
  · exact (Below.refl _ _).drew
  refine ta 0 127 hHeld ?_
  try simp only [zz]
  refine tk 1 128 (.agg #[.int .i64 a, .int .i64 b]) rfl (by kernel_rfl) (fun _ _ _ h => h) (by kernel_rfl) (fun V hV => ex_Gauss _ rfl (w.heap.size) 0 rfl (((HK.out.old hV).row _ _ _ (.tail _ (.tail _ (.tail _ (.tail _ (.tail _ (.tail _ (.tail _ (.head _))))))))).cell 0) (((HK.out.old hV).row _ _ _ (.tail _ (.tail _ (.tail _ (.tail _ (.tail _ (.tail _ (.tail _ (.head _))))))))).cell 1)) hHeld ?_
  try simp only [zz]
  refine ta 2 129 hHeld ?_
  try simp only [zz]
  refine tk 3 130 (.agg #[.int .i64 c, .int .i64 d]) rfl (by kernel_rfl) (fun _ _ _ h => h) (by kernel_rfl) (fun V hV => ex_Gauss _ rfl (w.heap.size) 2 rfl (((HK.out.old hV).row _ _ _ (.tail _ (.tail _ (.tail _ (.tail _ (.tail _ (.tail _ (.tail _ (.head _))))))))).cell 2) (((HK.out.old hV).row _ _ _ (.tail _ (.tail _ (.tail _ (.tail _ (.tail _ (.tail _ (.tail _ (.head _))))))))).cell 3)) hHeld ?_
  try simp only [zz]
  refine ta 4 131 hHeld ?_
  try simp only [zz]
  refine tk 5 132 (.agg #[.int .i64 p, .int .i64 q]) rfl (by kernel_rfl) (fun _ _ _ h => h) (by kernel_rfl) (fun V hV => ex_Gauss _ rfl ((w.heap.size + 1)) 0 rfl (((HK.out.old hV).row _ _ _ (.tail _ (.tail _ (.tail _ (.tail _ (.tail _ (.tail _ (.head _)))))))).cell 0) (((HK.out.old hV).row _ _ _ (.tail _ (.tail _ (.tail _ (.tail _ (.tail _ (.tail _ (.head _)))))))).cell 1)) hHeld ?_
  try simp only [zz]
  refine ta 7 134 hHeld ?_
  try simp only [zz]
  refine tk 8 135 (.agg #[.int .i64 x, .int .i64 y]) rfl (by kernel_rfl) (fun _ _ _ h => h) (by kernel_rfl) (fun V hV => ex_Gauss _ rfl (w.heap.size) 4 rfl (((HK.out.old hV).row _ _ _ (.tail _ (.tail _ (.tail _ (.tail _ (.tail _ (.tail _ (.tail _ (.head _))))))))).cell 4) (((HK.out.old hV).row _ _ _ (.tail _ (.tail _ (.tail _ (.tail _ (.tail _ (.tail _ (.tail _ (.head _))))))))).cell 5)) hHeld ?_
  try simp only [zz]
  refine ta 9 136 hHeld ?_
  try simp only [zz]
  refine tk 10 137 (.agg #[.int .i64 r, .int .i64 u]) rfl (by kernel_rfl) (fun _ _ _ h => h) (by kernel_rfl) (fun V hV => ex_Gauss _ rfl ((w.heap.size + 1)) 2 rfl (((HK.out.old hV).row _ _ _ (.tail _ (.tail _ (.tail _ (.tail _ (.tail _ (.tail _ (.head _)))))))).cell 2) (((HK.out.old hV).row _ _ _ (.tail _ (.tail _ (.tail _ (.tail _ (.tail _ (.tail _ (.head _)))))))).cell 3)) hHeld ?_
  try simp only [zz]
  refine st3 6 13 (fun K hK => ?_) (fun K hK => ?_)
  rotate_left
  have hge := hHeld.size
  go_simp
  refine hK.out _ _ ?_ (fun hHeld => ?_)
  · exact hHeld.alloc hHeld.size _
  clear hK K
  try simp only [zz]
  first | refine use_row (Row.new _ 25 [.int .i64 0, .int .i64 0, .int .i64 0, .int .i64 0, .int .i64 0, .int .i64 0]) (fun hr => ?_) | refine use_row (Row.new _ 25 [.int .i64 0, .int .i64 0, .int .i64 0, .int .i64 0, .int .i64 0, .int .i64 0]).drew (fun hr => ?_)
  all_goals (try (refine wpAnyH_ready (rs := [6]) (by kernel_rfl) (by simp) ?_; refine AllReadyH.cons rfl (fun K hK => ?_) AllReadyH.nil))
  all_goals
   go_simp
   go_at_call 10
   refine (hP1.out _).mono ?_
   rintro e v1 ⟨rfl, hb⟩
   try replace hr := hr.old hb
   have hz := hb.size
   try simp only [World.size_alloc, size_drewT] at hz
   try go_simp
   refine hK.out _ _ ?_ (fun hHeld => ?_)
   · exact hHeld.trans (hb.mono hHeld.size)
   clear hK K
   try simp only [zz]
  rotate_right
  refine st3 11 13 (fun K hK => ?_) (fun K hK => ?_)
  rotate_left
  have hge := hHeld.size
  go_simp
  refine hK.out _ _ ?_ (fun hHeld => ?_)
  · exact hHeld.alloc hHeld.size _
  clear hK K
  try simp only [zz]
  first | refine use_row (Row.new _ 25 [.int .i64 0, .int .i64 0, .int .i64 0, .int .i64 0, .int .i64 0, .int .i64 0]) (fun hr => ?_) | refine use_row (Row.new _ 25 [.int .i64 0, .int .i64 0, .int .i64 0, .int .i64 0, .int .i64 0, .int .i64 0]).drew (fun hr => ?_)
  all_goals (try (refine wpAnyH_ready (rs := [11]) (by kernel_rfl) (by simp) ?_; refine AllReadyH.cons rfl (fun K hK => ?_) AllReadyH.nil))
  all_goals
   go_simp
   go_at_call 10
   refine (hP2.out _).mono ?_
   rintro e v1 ⟨rfl, hb⟩
   try replace hr := hr.old hb
   have hz := hb.size
   try simp only [World.size_alloc, size_drewT] at hz
   try go_simp
   refine hK.out _ _ ?_ (fun hHeld => ?_)
   · exact hHeld.trans (hb.mono hHeld.size)
   clear hK K
   try simp only [zz]
   refine ta 12 139 hHeld ?_
   try simp only [zz]
  rotate_right
  refine st2 13 (fun K hK => ?_)
  have hge := hHeld.size
  go_simp
  refine hK.out _ _ ?_ (fun hHeld => ?_)
  · exact hHeld.alloc hHeld.size _
  clear hK K
  try simp only [zz]
  first | refine use_row (Row.new _ 25 [.int .i64 0, .int .i64 0, .int .i64 0, .int .i64 0, .int .i64 0, .int .i64 0]) (fun hr => ?_) | refine use_row (Row.new _ 25 [.int .i64 0, .int .i64 0, .int .i64 0, .int .i64 0, .int .i64 0, .int .i64 0]).drew (fun hr => ?_)
  all_goals
   refine st2 14 (fun K hK => ?_)
   refine step_store_row rfl 25 _ _ rfl _ [.int .i64 a, .int .i64 b, .int .i64 l1, .int .i64 l2, .int .i64 h1, .int .i64 h2] rfl rfl 25 [.int .i64 0, .int .i64 0, .int .i64 0, .int .i64 0, .int .i64 0, .int .i64 0] hr (by kernel_rfl) rfl (by simp [Value.oneCell']) ?_
   refine hK.out _ _ ?_ (fun hHeld => ?_)
   · exact Below.setRow hHeld hge _
   clear hK K
   try simp only [zz]
   refine wpAnyH_done (by kernel_rfl) ?_ _
   go_wp2_with fail
   go_meet
   exact ⟨_, rfl, Lib.hid (KpT.cons (HK.out.old hHeld) (hr.setRow _))⟩
 case rest =>
 clear HK
 obtain ⟨g16, rfl, HK⟩ := hcut
 go_upto_region 12 with fail
 go_cut [17] from 140 to 152 (fun s17 wx => ∃ g17, s17 = .pointer (some ⟨g17, 0, none⟩) ∧ Hid (KpT w [(g17, 25, [.int .i64 a, .int .i64 b, .int .i64 m1, .int .i64 m2, .int .i64 j1, .int .i64 j2]), (g16, 25, [.int .i64 a, .int .i64 b, .int .i64 l1, .int .i64 l2, .int .i64 h1, .int .i64 h2]), (g14, 23, [.int .i64 fr, .int .i64 fi]), (g13, 35, [.int .i64 a, .int .i64 b, .int .i64 c, .int .i64 d, .int .i64 x, .int .i64 y]), (g10, 23, [.int .i64 0, .int .i64 0]), (g9, 35, [.int .i64 a, .int .i64 b, .int .i64 c, .int .i64 d, .int .i64 x, .int .i64 y]), (g7, 31, [.complex .f32 k0 k1, .complex .f32 k2 k3, .complex .f32 k4 k5, .complex .f32 k6 k7]), ((w.heap.size + 1 + 1), 23, [.int .i64 fr, .int .i64 fi]), ((w.heap.size + 1), 26, [.int .i64 p, .int .i64 q, .int .i64 r, .int .i64 u]), (w.heap.size, 25, [.int .i64 a, .int .i64 b, .int .i64 c, .int .i64 d, .int .i64 x, .int .i64 y])] [] wx))
 case first =>
  refine wp_region_held_drew (S := fun V => Below wc.heap.size wc V) (by kernel_rfl) ?_ (fun hHeld => ?_)
  · exact (Below.refl _ _).drew
  refine ta 0 140 hHeld ?_
  try simp only [zz]
  refine tk 1 141 (.agg #[.int .i64 a, .int .i64 b]) rfl (by kernel_rfl) (fun _ _ _ h => h) (by kernel_rfl) (fun V hV => ex_Gauss _ rfl (w.heap.size) 0 rfl (((HK.out.old hV).row _ _ _ (.tail _ (.tail _ (.tail _ (.tail _ (.tail _ (.tail _ (.tail _ (.tail _ (.head _)))))))))).cell 0) (((HK.out.old hV).row _ _ _ (.tail _ (.tail _ (.tail _ (.tail _ (.tail _ (.tail _ (.tail _ (.tail _ (.head _)))))))))).cell 1)) hHeld ?_
  try simp only [zz]
  refine ta 2 142 hHeld ?_
  try simp only [zz]
  refine tk 3 143 (.agg #[.int .i64 c, .int .i64 d]) rfl (by kernel_rfl) (fun _ _ _ h => h) (by kernel_rfl) (fun V hV => ex_Gauss _ rfl (w.heap.size) 2 rfl (((HK.out.old hV).row _ _ _ (.tail _ (.tail _ (.tail _ (.tail _ (.tail _ (.tail _ (.tail _ (.tail _ (.head _)))))))))).cell 2) (((HK.out.old hV).row _ _ _ (.tail _ (.tail _ (.tail _ (.tail _ (.tail _ (.tail _ (.tail _ (.tail _ (.head _)))))))))).cell 3)) hHeld ?_
  try simp only [zz]
  refine ta 4 144 hHeld ?_
  try simp only [zz]
  refine tk 5 145 (.agg #[.int .i64 p, .int .i64 q]) rfl (by kernel_rfl) (fun _ _ _ h => h) (by kernel_rfl) (fun V hV => ex_Gauss _ rfl ((w.heap.size + 1)) 0 rfl (((HK.out.old hV).row _ _ _ (.tail _ (.tail _ (.tail _ (.tail _ (.tail _ (.tail _ (.tail _ (.head _))))))))).cell 0) (((HK.out.old hV).row _ _ _ (.tail _ (.tail _ (.tail _ (.tail _ (.tail _ (.tail _ (.tail _ (.head _))))))))).cell 1)) hHeld ?_
  try simp only [zz]
  refine ta 7 147 hHeld ?_
  try simp only [zz]
  refine tk 8 148 (.agg #[.int .i64 x, .int .i64 y]) rfl (by kernel_rfl) (fun _ _ _ h => h) (by kernel_rfl) (fun V hV => ex_Gauss _ rfl (w.heap.size) 4 rfl (((HK.out.old hV).row _ _ _ (.tail _ (.tail _ (.tail _ (.tail _ (.tail _ (.tail _ (.tail _ (.tail _ (.head _)))))))))).cell 4) (((HK.out.old hV).row _ _ _ (.tail _ (.tail _ (.tail _ (.tail _ (.tail _ (.tail _ (.tail _ (.tail _ (.head _)))))))))).cell 5)) hHeld ?_
  try simp only [zz]
  refine ta 9 149 hHeld ?_
  try simp only [zz]
  refine tk 10 150 (.agg #[.int .i64 r, .int .i64 u]) rfl (by kernel_rfl) (fun _ _ _ h => h) (by kernel_rfl) (fun V hV => ex_Gauss _ rfl ((w.heap.size + 1)) 2 rfl (((HK.out.old hV).row _ _ _ (.tail _ (.tail _ (.tail _ (.tail _ (.tail _ (.tail _ (.tail _ (.head _))))))))).cell 2) (((HK.out.old hV).row _ _ _ (.tail _ (.tail _ (.tail _ (.tail _ (.tail _ (.tail _ (.tail _ (.head _))))))))).cell 3)) hHeld ?_
  try simp only [zz]
  refine st3 6 13 (fun K hK => ?_) (fun K hK => ?_)
  rotate_left
  have hge := hHeld.size
  go_simp
  refine hK.out _ _ ?_ (fun hHeld => ?_)
  · exact hHeld.alloc hHeld.size _
  clear hK K
  try simp only [zz]
  first | refine use_row (Row.new _ 25 [.int .i64 0, .int .i64 0, .int .i64 0, .int .i64 0, .int .i64 0, .int .i64 0]) (fun hr => ?_) | refine use_row (Row.new _ 25 [.int .i64 0, .int .i64 0, .int .i64 0, .int .i64 0, .int .i64 0, .int .i64 0]).drew (fun hr => ?_)
  all_goals (try (refine wpAnyH_ready (rs := [6]) (by kernel_rfl) (by simp) ?_; refine AllReadyH.cons rfl (fun K hK => ?_) AllReadyH.nil))
  all_goals
   go_simp
   go_at_call 11
   refine (hM1.out _).mono ?_
   rintro e v1 ⟨rfl, hb⟩
   try replace hr := hr.old hb
   have hz := hb.size
   try simp only [World.size_alloc, size_drewT] at hz
   try go_simp
   refine hK.out _ _ ?_ (fun hHeld => ?_)
   · exact hHeld.trans (hb.mono hHeld.size)
   clear hK K
   try simp only [zz]
  rotate_right
  refine st3 11 13 (fun K hK => ?_) (fun K hK => ?_)
  rotate_left
  have hge := hHeld.size
  go_simp
  refine hK.out _ _ ?_ (fun hHeld => ?_)
  · exact hHeld.alloc hHeld.size _
  clear hK K
  try simp only [zz]
  first | refine use_row (Row.new _ 25 [.int .i64 0, .int .i64 0, .int .i64 0, .int .i64 0, .int .i64 0, .int .i64 0]) (fun hr => ?_) | refine use_row (Row.new _ 25 [.int .i64 0, .int .i64 0, .int .i64 0, .int .i64 0, .int .i64 0, .int .i64 0]).drew (fun hr => ?_)
  all_goals (try (refine wpAnyH_ready (rs := [11]) (by kernel_rfl) (by simp) ?_; refine AllReadyH.cons rfl (fun K hK => ?_) AllReadyH.nil))
  all_goals
   go_simp
   go_at_call 11
   refine (hM2.out _).mono ?_
   rintro e v1 ⟨rfl, hb⟩
   try replace hr := hr.old hb
   have hz := hb.size
   try simp only [World.size_alloc, size_drewT] at hz
   try go_simp
   refine hK.out _ _ ?_ (fun hHeld => ?_)
   · exact hHeld.trans (hb.mono hHeld.size)
   clear hK K
   try simp only [zz]
   refine ta 12 152 hHeld ?_
   try simp only [zz]
  rotate_right
  refine st2 13 (fun K hK => ?_)
  have hge := hHeld.size
  go_simp
  refine hK.out _ _ ?_ (fun hHeld => ?_)
  · exact hHeld.alloc hHeld.size _
  clear hK K
  try simp only [zz]
  first | refine use_row (Row.new _ 25 [.int .i64 0, .int .i64 0, .int .i64 0, .int .i64 0, .int .i64 0, .int .i64 0]) (fun hr => ?_) | refine use_row (Row.new _ 25 [.int .i64 0, .int .i64 0, .int .i64 0, .int .i64 0, .int .i64 0, .int .i64 0]).drew (fun hr => ?_)
  all_goals
   refine st2 14 (fun K hK => ?_)
   refine step_store_row rfl 25 _ _ rfl _ [.int .i64 a, .int .i64 b, .int .i64 m1, .int .i64 m2, .int .i64 j1, .int .i64 j2] rfl rfl 25 [.int .i64 0, .int .i64 0, .int .i64 0, .int .i64 0, .int .i64 0, .int .i64 0] hr (by kernel_rfl) rfl (by simp [Value.oneCell']) ?_
   refine hK.out _ _ ?_ (fun hHeld => ?_)
   · exact Below.setRow hHeld hge _
   clear hK K
   try simp only [zz]
   refine wpAnyH_done (by kernel_rfl) ?_ _
   go_wp2_with fail
   go_meet
   exact ⟨_, rfl, Lib.hid (KpT.cons (HK.out.old hHeld) (hr.setRow _))⟩
 case rest =>
 clear HK
 obtain ⟨g17, rfl, HK⟩ := hcut
 go_upto_region 13 with fail
 go_cut [18, 19] from 153 to 157 (fun s18 s19 wx => ∃ g18, s18 = .pointer (some ⟨g18, 0, none⟩) ∧ s19 = .int .i64 0 ∧ Hid (KpT w [(g18, 31, [.complex .f32 o0 o1, .complex .f32 o2 o3, .complex .f32 o4 o5, .complex .f32 o6 o7]), (g17, 25, [.int .i64 a, .int .i64 b, .int .i64 m1, .int .i64 m2, .int .i64 j1, .int .i64 j2]), (g16, 25, [.int .i64 a, .int .i64 b, .int .i64 l1, .int .i64 l2, .int .i64 h1, .int .i64 h2]), (g14, 23, [.int .i64 fr, .int .i64 fi]), (g13, 35, [.int .i64 a, .int .i64 b, .int .i64 c, .int .i64 d, .int .i64 x, .int .i64 y]), (g10, 23, [.int .i64 0, .int .i64 0]), (g9, 35, [.int .i64 a, .int .i64 b, .int .i64 c, .int .i64 d, .int .i64 x, .int .i64 y]), (g7, 31, [.complex .f32 k0 k1, .complex .f32 k2 k3, .complex .f32 k4 k5, .complex .f32 k6 k7]), ((w.heap.size + 1 + 1), 23, [.int .i64 fr, .int .i64 fi]), ((w.heap.size + 1), 26, [.int .i64 p, .int .i64 q, .int .i64 r, .int .i64 u]), (w.heap.size, 25, [.int .i64 a, .int .i64 b, .int .i64 c, .int .i64 d, .int .i64 x, .int .i64 y])] [] wx))
 case first =>
  have HV := HK
  go_wp2_with (first
   | (refine wpList_load_row rfl 25 _ rfl g16 rfl 25 #[.int .i64 a, .int .i64 b, .int .i64 l1, .int .i64 l2, .int .i64 h1, .int .i64 h2] (0, 0) _ (HV.out.row _ _ _ (.tail _ (.head _))) Tryz.underlying25 rfl ?_ ?_; (kernel_rfl))
   | (go_at_call 8; refine (hSo.out _).mono ?_; rintro e w2 ⟨rfl, hb⟩; replace HV := Lib.hid (HV.out.old hb); clear hb)
   | (refine wpList_store_row rfl 31 _ _ rfl (w2.heap.size) #[.complex .f32 o0 o1, .complex .f32 o2 o3, .complex .f32 o4 o5, .complex .f32 o6 o7] rfl rfl 31 _ (Row.new w2 31 [.complex .f32 0 0, .complex .f32 0 0, .complex .f32 0 0, .complex .f32 0 0]) ?_ ?_ ?_ ?_; (kernel_rfl); (rfl); (simp [Value.oneCell'])))
  go_meet
  exact ⟨_, rfl, rfl, Lib.hid (KpT.cons (HV.out.old (Below.setRow ((Below.refl _ _).alloc (Nat.le_refl _) _) (Nat.le_refl _) _)) ((Row.new w2 31 [.complex .f32 0 0, .complex .f32 0 0, .complex .f32 0 0, .complex .f32 0 0]).setRow [.complex .f32 o0 o1, .complex .f32 o2 o3, .complex .f32 o4 o5, .complex .f32 o6 o7]))⟩
 case rest =>
 clear HK
 obtain ⟨g18, rfl, rfl, HK⟩ := hcut
 go_upto_region 14 with fail
 go_cut [20, 21] from 158 to 162 (fun s20 s21 wx => ∃ g20, s20 = .pointer (some ⟨g20, 0, none⟩) ∧ s21 = .int .i64 0 ∧ Hid (KpT w [(g20, 31, [.complex .f32 n0 n1, .complex .f32 n2 n3, .complex .f32 n4 n5, .complex .f32 n6 n7]), (g18, 31, [.complex .f32 o0 o1, .complex .f32 o2 o3, .complex .f32 o4 o5, .complex .f32 o6 o7]), (g17, 25, [.int .i64 a, .int .i64 b, .int .i64 m1, .int .i64 m2, .int .i64 j1, .int .i64 j2]), (g16, 25, [.int .i64 a, .int .i64 b, .int .i64 l1, .int .i64 l2, .int .i64 h1, .int .i64 h2]), (g14, 23, [.int .i64 fr, .int .i64 fi]), (g13, 35, [.int .i64 a, .int .i64 b, .int .i64 c, .int .i64 d, .int .i64 x, .int .i64 y]), (g10, 23, [.int .i64 0, .int .i64 0]), (g9, 35, [.int .i64 a, .int .i64 b, .int .i64 c, .int .i64 d, .int .i64 x, .int .i64 y]), (g7, 31, [.complex .f32 k0 k1, .complex .f32 k2 k3, .complex .f32 k4 k5, .complex .f32 k6 k7]), ((w.heap.size + 1 + 1), 23, [.int .i64 fr, .int .i64 fi]), ((w.heap.size + 1), 26, [.int .i64 p, .int .i64 q, .int .i64 r, .int .i64 u]), (w.heap.size, 25, [.int .i64 a, .int .i64 b, .int .i64 c, .int .i64 d, .int .i64 x, .int .i64 y])] [] wx))
 case first =>
  have HV := HK
  go_wp2_with (first
   | (refine wpList_load_row rfl 25 _ rfl g17 rfl 25 #[.int .i64 a, .int .i64 b, .int .i64 m1, .int .i64 m2, .int .i64 j1, .int .i64 j2] (0, 0) _ (HV.out.row _ _ _ (.tail _ (.head _))) Tryz.underlying25 rfl ?_ ?_; (kernel_rfl))
   | (go_at_call 8; refine (hSu.out _).mono ?_; rintro e w2 ⟨rfl, hb⟩; replace HV := Lib.hid (HV.out.old hb); clear hb)
   | (refine wpList_store_row rfl 31 _ _ rfl (w2.heap.size) #[.complex .f32 n0 n1, .complex .f32 n2 n3, .complex .f32 n4 n5, .complex .f32 n6 n7] rfl rfl 31 _ (Row.new w2 31 [.complex .f32 0 0, .complex .f32 0 0, .complex .f32 0 0, .complex .f32 0 0]) ?_ ?_ ?_ ?_; (kernel_rfl); (rfl); (simp [Value.oneCell'])))
  go_meet
  exact ⟨_, rfl, rfl, Lib.hid (KpT.cons (HV.out.old (Below.setRow ((Below.refl _ _).alloc (Nat.le_refl _) _) (Nat.le_refl _) _)) ((Row.new w2 31 [.complex .f32 0 0, .complex .f32 0 0, .complex .f32 0 0, .complex .f32 0 0]).setRow [.complex .f32 n0 n1, .complex .f32 n2 n3, .complex .f32 n4 n5, .complex .f32 n6 n7]))⟩
 case rest =>
 clear HK
 obtain ⟨g20, rfl, rfl, HK⟩ := hcut
 go_upto_region 15 with fail
 go_cut [22, 23, 24] from 163 to 171 (fun s22 s23 s24 wx => ∃ g22 g23, s22 = .pointer (some ⟨g22, 0, none⟩) ∧ s23 = .pointer (some ⟨g23, 0, none⟩) ∧ s24 = .int .i64 0 ∧ Hid (KpT w [(g23, 23, [.int .i64 0, .int .i64 0]), (g22, 35, [.int .i64 a, .int .i64 b, .int .i64 c, .int .i64 d, .int .i64 x, .int .i64 y]), (g20, 31, [.complex .f32 n0 n1, .complex .f32 n2 n3, .complex .f32 n4 n5, .complex .f32 n6 n7]), (g18, 31, [.complex .f32 o0 o1, .complex .f32 o2 o3, .complex .f32 o4 o5, .complex .f32 o6 o7]), (g17, 25, [.int .i64 a, .int .i64 b, .int .i64 m1, .int .i64 m2, .int .i64 j1, .int .i64 j2]), (g16, 25, [.int .i64 a, .int .i64 b, .int .i64 l1, .int .i64 l2, .int .i64 h1, .int .i64 h2]), (g14, 23, [.int .i64 fr, .int .i64 fi]), (g13, 35, [.int .i64 a, .int .i64 b, .int .i64 c, .int .i64 d, .int .i64 x, .int .i64 y]), (g10, 23, [.int .i64 0, .int .i64 0]), (g9, 35, [.int .i64 a, .int .i64 b, .int .i64 c, .int .i64 d, .int .i64 x, .int .i64 y]), (g7, 31, [.complex .f32 k0 k1, .complex .f32 k2 k3, .complex .f32 k4 k5, .complex .f32 k6 k7]), ((w.heap.size + 1 + 1), 23, [.int .i64 fr, .int .i64 fi]), ((w.heap.size + 1), 26, [.int .i64 p, .int .i64 q, .int .i64 r, .int .i64 u]), (w.heap.size, 25, [.int .i64 a, .int .i64 b, .int .i64 c, .int .i64 d, .int .i64 x, .int .i64 y])] [] wx))
 case first =>
  have HV := HK
  go_wp2_with (first
   | (refine wpList_load_row rfl 31 _ rfl g18 rfl 31 #[.complex .f32 o0 o1, .complex .f32 o2 o3, .complex .f32 o4 o5, .complex .f32 o6 o7] (0, 0) _ (HV.out.row _ _ _ (.tail _ (.head _))) Tryz.underlying31 rfl ?_ ?_; (kernel_rfl))
   | (refine wpList_load_row rfl 31 _ rfl g7 rfl 31 #[.complex .f32 k0 k1, .complex .f32 k2 k3, .complex .f32 k4 k5, .complex .f32 k6 k7] (0, 0) _ (HV.out.row _ _ _ (.tail _ (.tail _ (.tail _ (.tail _ (.tail _ (.tail _ (.tail _ (.tail _ (.head _)))))))))) Tryz.underlying31 rfl ?_ ?_; (kernel_rfl))
   | (refine wpList_load_row rfl 31 _ rfl g20 rfl 31 #[.complex .f32 n0 n1, .complex .f32 n2 n3, .complex .f32 n4 n5, .complex .f32 n6 n7] (0, 0) _ (HV.out.row _ _ _ (.head _)) Tryz.underlying31 rfl ?_ ?_; (kernel_rfl))
   | (go_at_call 12; refine (hAv.out _ _ _ Rd.newT).mono ?_; rintro e w2 ⟨rfl, hb⟩; replace HV := Lib.hid (HV.out.old (((Below.refl _ _).alloc (Nat.le_refl _) _).trans (hb.mono ((Below.refl _ _).alloc (Nat.le_refl _) _).size))); clear hb)
   | (refine wpList_store_row rfl 35 _ _ rfl (w2.heap.size) #[.int .i64 a, .int .i64 b, .int .i64 c, .int .i64 d, .int .i64 x, .int .i64 y] rfl rfl 35 _ ((Row.new w2 35 [.int .i64 0, .int .i64 0, .int .i64 0, .int .i64 0, .int .i64 0, .int .i64 0]).alloc (.cells ([.int .i64 0, .int .i64 0] : List Value).toArray 23)) ?_ ?_ ?_ ?_; (kernel_rfl); (rfl); (simp [Value.oneCell']))
   | (refine wpList_store_row rfl 23 _ _ rfl (w2.heap.size + 1) #[.int .i64 0, .int .i64 0] rfl rfl 23 _ ((row2 (w := w2) (t1 := 35) (t2 := 23) (L1 := [.int .i64 0, .int .i64 0, .int .i64 0, .int .i64 0, .int .i64 0, .int .i64 0]) (L2 := [.int .i64 0, .int .i64 0])).farRow (by omega : w2.heap.size + 1 ≠ w2.heap.size) #[.int .i64 a, .int .i64 b, .int .i64 c, .int .i64 d, .int .i64 x, .int .i64 y]) ?_ ?_ ?_ ?_; (kernel_rfl); (rfl); (simp [Value.oneCell'])))
  go_meet
  exact ⟨_, _, rfl, rfl, rfl, Lib.hid (KpT.cons (KpT.cons (HV.out.old (Below.setRow (Below.setRow (((Below.refl _ _).alloc (Nat.le_refl _) _).alloc (by simp) _) (Nat.le_refl _) _) (by omega) _)) ((((Row.new w2 35 [.int .i64 0, .int .i64 0, .int .i64 0, .int .i64 0, .int .i64 0, .int .i64 0]).alloc (.cells ([.int .i64 0, .int .i64 0] : List Value).toArray 23)).setRow [.int .i64 a, .int .i64 b, .int .i64 c, .int .i64 d, .int .i64 x, .int .i64 y]).farRow (by omega) _)) (((row2 (w := w2) (t1 := 35) (t2 := 23) (L1 := [.int .i64 0, .int .i64 0, .int .i64 0, .int .i64 0, .int .i64 0, .int .i64 0]) (L2 := [.int .i64 0, .int .i64 0])).farRow (by omega : w2.heap.size + 1 ≠ w2.heap.size) #[.int .i64 a, .int .i64 b, .int .i64 c, .int .i64 d, .int .i64 x, .int .i64 y]).setRow [.int .i64 0, .int .i64 0]))⟩
 case rest =>
 clear HK
 obtain ⟨g22, g23, rfl, rfl, rfl, HK⟩ := hcut
 go_upto_region 16 with fail
 go_cut [191] from 172 to 190 (fun s191 wx => s191 = .bool false ∧ Hid (KpT w [(g23, 23, [.int .i64 0, .int .i64 0]), (g22, 35, [.int .i64 a, .int .i64 b, .int .i64 c, .int .i64 d, .int .i64 x, .int .i64 y]), (g20, 31, [.complex .f32 n0 n1, .complex .f32 n2 n3, .complex .f32 n4 n5, .complex .f32 n6 n7]), (g18, 31, [.complex .f32 o0 o1, .complex .f32 o2 o3, .complex .f32 o4 o5, .complex .f32 o6 o7]), (g17, 25, [.int .i64 a, .int .i64 b, .int .i64 m1, .int .i64 m2, .int .i64 j1, .int .i64 j2]), (g16, 25, [.int .i64 a, .int .i64 b, .int .i64 l1, .int .i64 l2, .int .i64 h1, .int .i64 h2]), (g14, 23, [.int .i64 fr, .int .i64 fi]), (g13, 35, [.int .i64 a, .int .i64 b, .int .i64 c, .int .i64 d, .int .i64 x, .int .i64 y]), (g10, 23, [.int .i64 0, .int .i64 0]), (g9, 35, [.int .i64 a, .int .i64 b, .int .i64 c, .int .i64 d, .int .i64 x, .int .i64 y]), (g7, 31, [.complex .f32 k0 k1, .complex .f32 k2 k3, .complex .f32 k4 k5, .complex .f32 k6 k7]), ((w.heap.size + 1 + 1), 23, [.int .i64 fr, .int .i64 fi]), ((w.heap.size + 1), 26, [.int .i64 p, .int .i64 q, .int .i64 r, .int .i64 u]), (w.heap.size, 25, [.int .i64 a, .int .i64 b, .int .i64 c, .int .i64 d, .int .i64 x, .int .i64 y])] [] wx))
 case first =>
  have HV := HK
  have q1 := neqTS_self a b c d x y
  have q2 : ∀ w, (binOp .neq 23 (.agg #[.int .i64 0, .int .i64 0]) (.agg #[.int .i64 0, .int .i64 0])).run Tryz.prog w = .ok (.bool false) w := fun w => neqG 0 0 0 0 w
  have e00 := ((HK.out.row _ _ _ (.tail _ (.head _))).cell 0)
  have e01 := ((HK.out.row _ _ _ (.tail _ (.head _))).cell 1)
  have e02 := ((HK.out.row _ _ _ (.tail _ (.head _))).cell 2)
  have e03 := ((HK.out.row _ _ _ (.tail _ (.head _))).cell 3)
  have e04 := ((HK.out.row _ _ _ (.tail _ (.head _))).cell 4)
  have e05 := ((HK.out.row _ _ _ (.tail _ (.head _))).cell 5)
  have e10 := ((HK.out.row _ _ _ (.tail _ (.tail _ (.tail _ (.tail _ (.tail _ (.tail _ (.tail _ (.tail _ (.tail _ (.tail _ (.tail _ (.tail _ (.tail _ (.head _))))))))))))))).cell 0)
  have e11 := ((HK.out.row _ _ _ (.tail _ (.tail _ (.tail _ (.tail _ (.tail _ (.tail _ (.tail _ (.tail _ (.tail _ (.tail _ (.tail _ (.tail _ (.tail _ (.head _))))))))))))))).cell 1)
  have e12 := ((HK.out.row _ _ _ (.tail _ (.tail _ (.tail _ (.tail _ (.tail _ (.tail _ (.tail _ (.tail _ (.tail _ (.tail _ (.tail _ (.tail _ (.tail _ (.head _))))))))))))))).cell 2)
  have e13 := ((HK.out.row _ _ _ (.tail _ (.tail _ (.tail _ (.tail _ (.tail _ (.tail _ (.tail _ (.tail _ (.tail _ (.tail _ (.tail _ (.tail _ (.tail _ (.head _))))))))))))))).cell 3)
  have e14 := ((HK.out.row _ _ _ (.tail _ (.tail _ (.tail _ (.tail _ (.tail _ (.tail _ (.tail _ (.tail _ (.tail _ (.tail _ (.tail _ (.tail _ (.tail _ (.head _))))))))))))))).cell 4)
  have e15 := ((HK.out.row _ _ _ (.tail _ (.tail _ (.tail _ (.tail _ (.tail _ (.tail _ (.tail _ (.tail _ (.tail _ (.tail _ (.tail _ (.tail _ (.tail _ (.head _))))))))))))))).cell 5)
  have e20 := ((HK.out.row _ _ _ (.head _)).cell 0)
  have e21 := ((HK.out.row _ _ _ (.head _)).cell 1)
  simp only [List.getElem?_cons_succ, List.getElem?_cons_zero] at e00 e01 e02 e03 e04 e05 e10 e11 e12 e13 e14 e15 e20 e21
  go_wp2_with fail
  all_goals (go_meet; exact ⟨rfl, HK⟩)
 case rest =>
 clear HK
 obtain ⟨rfl, HK⟩ := hcut
 go_upto_region 18 with fail
 go_cut [25] from 192 to 194 (fun s25 wx => ∃ g25, s25 = .slice (some ⟨g25, 0, none⟩) 2 2 ∧ Hid (KpT w [(g25, 25, [.int .i64 a, .int .i64 b, .int .i64 c, .int .i64 d, .int .i64 x, .int .i64 y, .int .i64 a, .int .i64 b, .int .i64 l1, .int .i64 l2, .int .i64 h1, .int .i64 h2]), (g23, 23, [.int .i64 0, .int .i64 0]), (g22, 35, [.int .i64 a, .int .i64 b, .int .i64 c, .int .i64 d, .int .i64 x, .int .i64 y]), (g20, 31, [.complex .f32 n0 n1, .complex .f32 n2 n3, .complex .f32 n4 n5, .complex .f32 n6 n7]), (g18, 31, [.complex .f32 o0 o1, .complex .f32 o2 o3, .complex .f32 o4 o5, .complex .f32 o6 o7]), (g17, 25, [.int .i64 a, .int .i64 b, .int .i64 m1, .int .i64 m2, .int .i64 j1, .int .i64 j2]), (g16, 25, [.int .i64 a, .int .i64 b, .int .i64 l1, .int .i64 l2, .int .i64 h1, .int .i64 h2]), (g14, 23, [.int .i64 fr, .int .i64 fi]), (g13, 35, [.int .i64 a, .int .i64 b, .int .i64 c, .int .i64 d, .int .i64 x, .int .i64 y]), (g10, 23, [.int .i64 0, .int .i64 0]), (g9, 35, [.int .i64 a, .int .i64 b, .int .i64 c, .int .i64 d, .int .i64 x, .int .i64 y]), (g7, 31, [.complex .f32 k0 k1, .complex .f32 k2 k3, .complex .f32 k4 k5, .complex .f32 k6 k7]), ((w.heap.size + 1 + 1), 23, [.int .i64 fr, .int .i64 fi]), ((w.heap.size + 1), 26, [.int .i64 p, .int .i64 q, .int .i64 r, .int .i64 u]), (w.heap.size, 25, [.int .i64 a, .int .i64 b, .int .i64 c, .int .i64 d, .int .i64 x, .int .i64 y])] [] wx))
 case first =>
  have HV := HK
  go_wp2_with (first
   | (refine wpList_load_row rfl 25 _ rfl w.heap.size rfl 25 #[.int .i64 a, .int .i64 b, .int .i64 c, .int .i64 d, .int .i64 x, .int .i64 y] (0, 0) _ (HV.out.row _ _ _ (.tail _ (.tail _ (.tail _ (.tail _ (.tail _ (.tail _ (.tail _ (.tail _ (.tail _ (.tail _ (.tail _ (.tail _ (.tail _ (.head _))))))))))))))) Tryz.underlying25 rfl ?_ ?_; (kernel_rfl))
   | (refine wpList_load_row rfl 25 _ rfl g16 rfl 25 #[.int .i64 a, .int .i64 b, .int .i64 l1, .int .i64 l2, .int .i64 h1, .int .i64 h2] (0, 0) _ (HV.out.row _ _ _ (.tail _ (.tail _ (.tail _ (.tail _ (.tail _ (.head _))))))) Tryz.underlying25 rfl ?_ ?_; (kernel_rfl)))
  go_meet
  exact ⟨_, rfl, Lib.hid (KpT.cons (HV.out.old ((Below.refl _ _).alloc (Nat.le_refl _) _)) (Row.new _ _ _))⟩
 case rest =>
 clear HK
 obtain ⟨g25, rfl, HK⟩ := hcut
 go_upto_region 19 with fail
 go_cut [26, 27] from 195 to 200 (fun s26 s27 wx => s26 = .string TX ∧ s27 = .int .i64 0 ∧ Hid (KpT w [(g25, 25, [.int .i64 a, .int .i64 b, .int .i64 c, .int .i64 d, .int .i64 x, .int .i64 y, .int .i64 a, .int .i64 b, .int .i64 l1, .int .i64 l2, .int .i64 h1, .int .i64 h2]), (g23, 23, [.int .i64 0, .int .i64 0]), (g22, 35, [.int .i64 a, .int .i64 b, .int .i64 c, .int .i64 d, .int .i64 x, .int .i64 y]), (g20, 31, [.complex .f32 n0 n1, .complex .f32 n2 n3, .complex .f32 n4 n5, .complex .f32 n6 n7]), (g18, 31, [.complex .f32 o0 o1, .complex .f32 o2 o3, .complex .f32 o4 o5, .complex .f32 o6 o7]), (g17, 25, [.int .i64 a, .int .i64 b, .int .i64 m1, .int .i64 m2, .int .i64 j1, .int .i64 j2]), (g16, 25, [.int .i64 a, .int .i64 b, .int .i64 l1, .int .i64 l2, .int .i64 h1, .int .i64 h2]), (g14, 23, [.int .i64 fr, .int .i64 fi]), (g13, 35, [.int .i64 a, .int .i64 b, .int .i64 c, .int .i64 d, .int .i64 x, .int .i64 y]), (g10, 23, [.int .i64 0, .int .i64 0]), (g9, 35, [.int .i64 a, .int .i64 b, .int .i64 c, .int .i64 d, .int .i64 x, .int .i64 y]), (g7, 31, [.complex .f32 k0 k1, .complex .f32 k2 k3, .complex .f32 k4 k5, .complex .f32 k6 k7]), ((w.heap.size + 1 + 1), 23, [.int .i64 fr, .int .i64 fi]), ((w.heap.size + 1), 26, [.int .i64 p, .int .i64 q, .int .i64 r, .int .i64 u]), (w.heap.size, 25, [.int .i64 a, .int .i64 b, .int .i64 c, .int .i64 d, .int .i64 x, .int .i64 y])] [] wx))
 case first =>
  have HV := HK
  go_wp2_with (first
   | (go_at_call 14; refine (hSg.out _ _ _ (Rd.row (HV.out.row _ _ _ (.head _)))).mono ?_; rintro e w2 ⟨At, ct, rfl, hFs, hb⟩; replace HV := Lib.hid (HV.out.old hb); clear hb)
   | (go_at_call 13; refine (hPr.out _ _ _ HV.out.1 hFs).mono ?_; rintro e w3 ⟨rfl, hb⟩; replace HV := Lib.hid (HV.out.old hb); clear hb))
  go_meet
  exact ⟨rfl, rfl, HV⟩
 case rest =>
 clear HK
 obtain ⟨rfl, rfl, HK⟩ := hcut
 go_upto_region 20 with fail
 go_cut [28, 29, 30] from 201 to 206 (fun s28 s29 s30 wx => ∃ Ay cy, s28 = .slice Ay 2 cy ∧ s29 = .int .i64 0 ∧ s30 = .int .i64 0 ∧ Hid (KpT w [(g25, 25, [.int .i64 a, .int .i64 b, .int .i64 c, .int .i64 d, .int .i64 x, .int .i64 y, .int .i64 a, .int .i64 b, .int .i64 l1, .int .i64 l2, .int .i64 h1, .int .i64 h2]), (g23, 23, [.int .i64 0, .int .i64 0]), (g22, 35, [.int .i64 a, .int .i64 b, .int .i64 c, .int .i64 d, .int .i64 x, .int .i64 y]), (g20, 31, [.complex .f32 n0 n1, .complex .f32 n2 n3, .complex .f32 n4 n5, .complex .f32 n6 n7]), (g18, 31, [.complex .f32 o0 o1, .complex .f32 o2 o3, .complex .f32 o4 o5, .complex .f32 o6 o7]), (g17, 25, [.int .i64 a, .int .i64 b, .int .i64 m1, .int .i64 m2, .int .i64 j1, .int .i64 j2]), (g16, 25, [.int .i64 a, .int .i64 b, .int .i64 l1, .int .i64 l2, .int .i64 h1, .int .i64 h2]), (g14, 23, [.int .i64 fr, .int .i64 fi]), (g13, 35, [.int .i64 a, .int .i64 b, .int .i64 c, .int .i64 d, .int .i64 x, .int .i64 y]), (g10, 23, [.int .i64 0, .int .i64 0]), (g9, 35, [.int .i64 a, .int .i64 b, .int .i64 c, .int .i64 d, .int .i64 x, .int .i64 y]), (g7, 31, [.complex .f32 k0 k1, .complex .f32 k2 k3, .complex .f32 k4 k5, .complex .f32 k6 k7]), ((w.heap.size + 1 + 1), 23, [.int .i64 fr, .int .i64 fi]), ((w.heap.size + 1), 26, [.int .i64 p, .int .i64 q, .int .i64 r, .int .i64 u]), (w.heap.size, 25, [.int .i64 a, .int .i64 b, .int .i64 c, .int .i64 d, .int .i64 x, .int .i64 y])] [(Ay, [.int .i64 a, .int .i64 b, .int .i64 c, .int .i64 d, .int .i64 x, .int .i64 y, .int .i64 a, .int .i64 b, .int .i64 l1, .int .i64 l2, .int .i64 h1, .int .i64 h2])] wx))
 case first =>
  have HV := HK
  go_wp2_with (first
   | (go_at_call 15; refine (hPa.out _ HV.out.1).mono ?_; rintro e w2 ⟨Ay, cy, rfl, hF, hb⟩; replace HV := Lib.hid (HV.out.old hb); clear hb))
  go_meet
  exact ⟨_, _, rfl, rfl, rfl, Lib.hid (KpT.rcons HV.out hF)⟩
 case rest =>
 clear HK
 obtain ⟨Ay, cy, rfl, rfl, rfl, HK⟩ := hcut
 go_upto_region 21 with fail
 go_cut [229] from 207 to 228 (fun s229 wx => s229 = .bool false ∧ Hid (KpT w [(g25, 25, [.int .i64 a, .int .i64 b, .int .i64 c, .int .i64 d, .int .i64 x, .int .i64 y, .int .i64 a, .int .i64 b, .int .i64 l1, .int .i64 l2, .int .i64 h1, .int .i64 h2]), (g23, 23, [.int .i64 0, .int .i64 0]), (g22, 35, [.int .i64 a, .int .i64 b, .int .i64 c, .int .i64 d, .int .i64 x, .int .i64 y]), (g20, 31, [.complex .f32 n0 n1, .complex .f32 n2 n3, .complex .f32 n4 n5, .complex .f32 n6 n7]), (g18, 31, [.complex .f32 o0 o1, .complex .f32 o2 o3, .complex .f32 o4 o5, .complex .f32 o6 o7]), (g17, 25, [.int .i64 a, .int .i64 b, .int .i64 m1, .int .i64 m2, .int .i64 j1, .int .i64 j2]), (g16, 25, [.int .i64 a, .int .i64 b, .int .i64 l1, .int .i64 l2, .int .i64 h1, .int .i64 h2]), (g14, 23, [.int .i64 fr, .int .i64 fi]), (g13, 35, [.int .i64 a, .int .i64 b, .int .i64 c, .int .i64 d, .int .i64 x, .int .i64 y]), (g10, 23, [.int .i64 0, .int .i64 0]), (g9, 35, [.int .i64 a, .int .i64 b, .int .i64 c, .int .i64 d, .int .i64 x, .int .i64 y]), (g7, 31, [.complex .f32 k0 k1, .complex .f32 k2 k3, .complex .f32 k4 k5, .complex .f32 k6 k7]), ((w.heap.size + 1 + 1), 23, [.int .i64 fr, .int .i64 fi]), ((w.heap.size + 1), 26, [.int .i64 p, .int .i64 q, .int .i64 r, .int .i64 u]), (w.heap.size, 25, [.int .i64 a, .int .i64 b, .int .i64 c, .int .i64 d, .int .i64 x, .int .i64 y])] [(Ay, [.int .i64 a, .int .i64 b, .int .i64 c, .int .i64 d, .int .i64 x, .int .i64 y, .int .i64 a, .int .i64 b, .int .i64 l1, .int .i64 l2, .int .i64 h1, .int .i64 h2])] wx))
 case first =>
  have HV := HK
  go_wp2_with (first
   | (go_at_call 17; refine (hTo.out _ _ _ (HV.out.rd Ay [.int .i64 a, .int .i64 b, .int .i64 c, .int .i64 d, .int .i64 x, .int .i64 y, .int .i64 a, .int .i64 b, .int .i64 l1, .int .i64 l2, .int .i64 h1, .int .i64 h2] (.head _))).mono ?_; rintro e w2 ⟨At, ct, rfl, hFt, hb⟩; replace HV := Lib.hid (HV.out.old hb); clear hb)
   | (go_at_call 16; refine (hSm.out _ _ _ _ _ hFt (Rd.row (HV.out.row _ _ _ (.head _)))).mono ?_; rintro e w3 ⟨rfl, hb⟩; replace HV := Lib.hid (HV.out.old hb); clear hb)
   | (go_at_call 18; refine (hSp.out _).mono ?_; rintro e w4 ⟨Ax, cx, rfl, hb⟩; replace HV := Lib.hid (HV.out.old hb); clear hb))
  all_goals (go_meet; exact ⟨rfl, HV⟩)
 case rest =>
 clear HK
 obtain ⟨rfl, HK⟩ := hcut
 go_upto_region 23 with fail
 go_cut [32, 33] from 31 to 239 (fun s32 s33 wx => s32 = .int .i64 1 ∧ s33 = .int .i64 25 ∧ Hid (KpT w [(g25, 25, [.int .i64 a, .int .i64 b, .int .i64 c, .int .i64 d, .int .i64 x, .int .i64 y, .int .i64 a, .int .i64 b, .int .i64 l1, .int .i64 l2, .int .i64 h1, .int .i64 h2]), (g23, 23, [.int .i64 0, .int .i64 0]), (g22, 35, [.int .i64 a, .int .i64 b, .int .i64 c, .int .i64 d, .int .i64 x, .int .i64 y]), (g20, 31, [.complex .f32 n0 n1, .complex .f32 n2 n3, .complex .f32 n4 n5, .complex .f32 n6 n7]), (g18, 31, [.complex .f32 o0 o1, .complex .f32 o2 o3, .complex .f32 o4 o5, .complex .f32 o6 o7]), (g17, 25, [.int .i64 a, .int .i64 b, .int .i64 m1, .int .i64 m2, .int .i64 j1, .int .i64 j2]), (g16, 25, [.int .i64 a, .int .i64 b, .int .i64 l1, .int .i64 l2, .int .i64 h1, .int .i64 h2]), (g14, 23, [.int .i64 fr, .int .i64 fi]), (g13, 35, [.int .i64 a, .int .i64 b, .int .i64 c, .int .i64 d, .int .i64 x, .int .i64 y]), (g10, 23, [.int .i64 0, .int .i64 0]), (g9, 35, [.int .i64 a, .int .i64 b, .int .i64 c, .int .i64 d, .int .i64 x, .int .i64 y]), (g7, 31, [.complex .f32 k0 k1, .complex .f32 k2 k3, .complex .f32 k4 k5, .complex .f32 k6 k7]), ((w.heap.size + 1 + 1), 23, [.int .i64 fr, .int .i64 fi]), ((w.heap.size + 1), 26, [.int .i64 p, .int .i64 q, .int .i64 r, .int .i64 u]), (w.heap.size, 25, [.int .i64 a, .int .i64 b, .int .i64 c, .int .i64 d, .int .i64 x, .int .i64 y])] [(Ay, [.int .i64 a, .int .i64 b, .int .i64 c, .int .i64 d, .int .i64 x, .int .i64 y, .int .i64 a, .int .i64 b, .int .i64 l1, .int .i64 l2, .int .i64 h1, .int .i64 h2])] wx))
 case first =>
  have HV := HK
  have u1 := hz1.out; have u2 := hz2.out; have u3 := hz3.out
  have u4 : (0 : Int) ≤ (tq : Int) := by omega
  go_wp2_with (first
   | (go_at_call 15; refine (hPa2.out _ HV.out.1).mono ?_; rintro e w2 ⟨Az, nz, cz, rfl, hb⟩; replace HV := Lib.hid (HV.out.old hb); clear hb))
  go_meet
  exact ⟨rfl, rfl, HV⟩
 case rest =>
 clear HK
 obtain ⟨rfl, rfl, HK⟩ := hcut
 go_wp2_with fail
 go_ret
 exact ⟨rfl, HK.out.2.2.2⟩
end Go.Proofs.YtaknlhepgeiekaaGreatDoor
