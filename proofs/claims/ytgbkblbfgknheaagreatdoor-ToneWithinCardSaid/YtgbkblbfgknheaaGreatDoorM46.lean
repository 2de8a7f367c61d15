import Derived.Test.YtgbkblbfgknheaaGreatDoorM43
import Derived.Test.YtgbkblbfgknheaaGreatDoorM44
namespace Go.Proofs.YtgbkblbfgknheaaGreatDoor
set_option linter.all false
open Go.RowKit Go.Fl
theorem step_off {b : Bool} {p q : Prop} (h : b = false) (hq : q) : if b = true then p else q := by rw [h]; exact hq
set_option maxRecDepth 100000 in
set_option maxHeartbeats 8000000 in
theorem within_out1 (rs rf rl ra rb a b c d x y g8 y16 z16 l0 l1 l2 nz o0 o1 o2 o3 E0 E1 : Int) (zn : Bool) (w : World) (hA : AwT w) (hRr : ∀ W, Calls Tryz.prog 25 #[.agg #[.int .i64 rs, .int .i64 rf, .int .i64 rl, .int .i64 ra, .int .i64 rb]] W fun e w' => e = .returned (.int .i64 E0) ∧ Below W.heap.size W w') (hNr : ∀ W, Calls Tryz.prog 17 #[.agg #[.int .i64 1, .int .i64 0, .int .i64 c, .int .i64 d, .int .i64 x, .int .i64 y], .int .i64 8000] W fun e w' => e = .returned (.bool zn) ∧ Below W.heap.size W w') (hCs : ∀ W, Calls Tryz.prog 26 #[.agg #[.int .i64 a, .int .i64 b, .int .i64 c, .int .i64 d, .int .i64 x, .int .i64 y]] W fun e w' => e = .returned (.int .i64 E1) ∧ Below W.heap.size W w') (h0 : E0 ≠ 0) : Calls Tryz.prog 5 #[.agg #[.int .i64 rs, .int .i64 rf, .int .i64 rl, .int .i64 ra, .int .i64 rb], .agg #[.int .i64 a, .int .i64 b, .int .i64 c, .int .i64 d, .int .i64 x, .int .i64 y], .agg #[.int .u8 g8, .int .u16 y16, .int .u16 z16, .int .u16 l0, .int .u16 l1, .int .u16 l2, .int .u8 nz, .int .i8 o0, .int .i8 o1, .int .i8 o2, .int .i8 o3]] w fun e w' => e = .returned (.bool true) ∧ Below w.heap.size w w' := by
 have HK : Hid (KpT w [((w.heap.size + 1 + 1), 69, (xh11 g8 y16 z16 l0 l1 l2 nz o0 o1 o2 o3)), ((w.heap.size + 1), 42, (i6 a b c d x y)), (w.heap.size, 63, (r5 rs rf rl ra rb))] [] (((w.alloc (.cells #[.int .i64 rs, .int .i64 rf, .int .i64 rl, .int .i64 ra, .int .i64 rb] 63)).alloc (.cells #[.int .i64 a, .int .i64 b, .int .i64 c, .int .i64 d, .int .i64 x, .int .i64 y] 42)).alloc (.cells #[.int .u8 g8, .int .u16 y16, .int .u16 z16, .int .u16 l0, .int .u16 l1, .int .u16 l2, .int .u8 nz, .int .i8 o0, .int .i8 o1, .int .i8 o2, .int .i8 o3] 69))) := Lib.hid (KpT.cons (KpT.cons (KpT.cons (KpT.old (V := w) ⟨hA, fun r h => (List.not_mem_nil h).elim, fun r h => (List.not_mem_nil h).elim, Below.refl _ _⟩ ((((Below.refl _ _).alloc (Nat.le_refl _) _).alloc (by simp) _).alloc (by simp only [World.size_alloc]; omega) _)) (((Row.new w 63 [.int .i64 rs, .int .i64 rf, .int .i64 rl, .int .i64 ra, .int .i64 rb]).alloc _).alloc _)) (row2.alloc _)) row3)
 replace hRr := Lib.hid hRr; replace hNr := Lib.hid hNr; replace hCs := Lib.hid hCs
 clear hA
 have hz : (E0 != 0) = true := by simpa using h0
 clear h0
 go_enter Tryz.func5, Tryz.ntmps5
 go_upto_region 1 with fail
 refine genT (fun V => KpT w [((w.heap.size + 1 + 1), 69, (xh11 g8 y16 z16 l0 l1 l2 nz o0 o1 o2 o3)), ((w.heap.size + 1), 42, (i6 a b c d x y)), (w.heap.size, 63, (r5 rs rf rl ra rb))] [] V) HK.out ?_
 clear HK
 intro wc s0
 have HK := Lib.hid s0
 clear s0
 go_cut [56] from 35 to 55 (fun s56 wx => s56 = .bool true ∧ Hid (KpT w [((w.heap.size + 1 + 1), 69, (xh11 g8 y16 z16 l0 l1 l2 nz o0 o1 o2 o3)), ((w.heap.size + 1), 42, (i6 a b c d x y)), (w.heap.size, 63, (r5 rs rf rl ra rb))] [] wx))
 case first =>
  refine wp_region_held_drew (S := fun V => Below wc.heap.size wc V) (by kernel_rfl) ?_ (fun hHeld => ?_)
  · exact (Below.refl _ _).drew
  refine st1 0 (by kernel_rfl) rfl (fun K hK => ?_)
  go_simp
  go_at_call 7
  refine (awake_ok _ (HK.out.old hHeld).1).mono ?_
  rintro e v0 ⟨rfl, hb0⟩
  have hz0 := hb0.size
  try simp only [World.size_alloc, size_drewT] at hz0
  try go_simp
  refine hK.out _ _ ?_ (fun hHeld => ?_)
  · exact hHeld.trans (hb0.mono hHeld.size)
  clear hK K
  try simp only [zz]
  refine tk 1 36 ?_ rfl (by kernel_rfl) (fun _ _ _ h => h) (by kernel_rfl) ?_ hHeld ?_
  rotate_left
  · intro w1 hSw; (try dsimp only at hSw); go_simp <;> with_reducible rfl
  try simp only [zz]
  refine tk 2 37 ?_ rfl (by kernel_rfl) (fun _ _ _ h => h) (by kernel_rfl) ?_ hHeld ?_
  rotate_left
  · intro w1 hSw; (try dsimp only at hSw); go_simp <;> with_reducible rfl
  try simp only [zz]
  refine tk 3 38 (.agg #[.int .i64 rs, .int .i64 rf, .int .i64 rl, .int .i64 ra, .int .i64 rb]) rfl (by kernel_rfl) (fun _ _ _ h => h) (by kernel_rfl) (fun V hV => ex_rowT 63 _ rfl (w.heap.size) rfl 63 [.int .i64 rs, .int .i64 rf, .int .i64 rl, .int .i64 ra, .int .i64 rb] _ Tryz.underlying63 rfl (by kernel_rfl) ((HK.out.old hV).row w.heap.size 63 (r5 rs rf rl ra rb) (.tail _ (.tail _ (.head _))))) hHeld ?_
  try simp only [zz]
  refine st1 4 (by kernel_rfl) rfl (fun K hK => ?_)
  go_simp
  go_at_call 25
  refine (hRr.out _).mono ?_
  rintro e v4 ⟨rfl, hb4⟩
  have hz4 := hb4.size
  try simp only [World.size_alloc, size_drewT] at hz4
  try go_simp
  refine hK.out _ _ ?_ (fun hHeld => ?_)
  · exact hHeld.trans (hb4.mono hHeld.size)
  clear hK K
  try simp only [zz]
  refine tk 5 40 ?_ rfl (by kernel_rfl) (fun _ _ _ h => h) (by kernel_rfl) ?_ hHeld ?_
  rotate_left
  · intro w1 hSw; (try dsimp only at hSw); go_simp <;> with_reducible rfl
  try simp only [zz]
  refine tk 6 41 ?_ rfl (by kernel_rfl) (fun _ _ _ h => h) (by kernel_rfl) ?_ hHeld ?_
  rotate_left
  · intro w1 hSw; (try dsimp only at hSw); go_simp <;> with_reducible rfl
  try simp only [zz]
  refine tk 7 42 ?_ rfl (by kernel_rfl) (fun _ _ _ h => h) (by kernel_rfl) ?_ hHeld ?_
  rotate_left
  · intro w1 hSw; (try dsimp only at hSw); go_simp <;> with_reducible rfl
  try simp only [zz]
  refine wpAnyH_take (i := 9) (oi := ⟨some 44, _, _, _, _, _⟩) (v := undef) rfl (by kernel_rfl) (by kernel_rfl) (by kernel_rfl) (fun _ _ _ h => h) (Or.inr ⟨by kernel_rfl, rfl⟩) hHeld ?_
  try simp only [zz]
  refine wpAnyH_take (i := 10) (oi := ⟨some 45, _, _, _, _, _⟩) (v := undef) rfl (by kernel_rfl) (by kernel_rfl) (by kernel_rfl) (fun _ _ _ h => h) (Or.inr ⟨by kernel_rfl, rfl⟩) hHeld ?_
  try simp only [zz]
  refine wpAnyH_take (i := 11) (oi := ⟨some 46, _, _, _, _, _⟩) (v := undef) rfl (by kernel_rfl) (by kernel_rfl) (by kernel_rfl) (fun _ _ _ h => h) (Or.inr ⟨by kernel_rfl, rfl⟩) hHeld ?_
  try simp only [zz]
  refine wpAnyH_take (i := 12) (oi := ⟨some 47, _, _, _, _, _⟩) (v := undef) rfl (by kernel_rfl) (by kernel_rfl) (by kernel_rfl) (fun _ _ _ h => h) (Or.inr ⟨by kernel_rfl, rfl⟩) hHeld ?_
  try simp only [zz]
  refine st1 8 (by kernel_rfl) rfl (fun K hK => ?_)
  refine step_off (by kernel_rfl) ?_
  try go_simp
  refine hK.out _ _ hHeld (fun hHeld => ?_)
  clear hK K
  try simp only [zz]
  refine wpAnyH_take (i := 13) (oi := ⟨some 48, _, _, _, _, _⟩) (v := undef) rfl (by kernel_rfl) (by kernel_rfl) (by kernel_rfl) (fun _ _ _ h => h) (Or.inr ⟨by kernel_rfl, rfl⟩) hHeld ?_
  try simp only [zz]
  refine st1 14 (by kernel_rfl) rfl (fun K hK => ?_)
  refine step_off (by kernel_rfl) ?_
  try go_simp
  refine hK.out _ _ hHeld (fun hHeld => ?_)
  clear hK K
  try simp only [zz]
  refine wpAnyH_take (i := 15) (oi := ⟨some 50, _, _, _, _, _⟩) (v := undef) rfl (by kernel_rfl) (by kernel_rfl) (by kernel_rfl) (fun _ _ _ h => h) (Or.inr ⟨by kernel_rfl, rfl⟩) hHeld ?_
  try simp only [zz]
  refine tk 16 51 ?_ rfl (by kernel_rfl) (fun _ _ _ h => h) (by kernel_rfl) ?_ hHeld ?_
  rotate_left
  · intro w1 hSw; (try dsimp only at hSw); go_simp <;> with_reducible rfl
  try simp only [zz]
  refine tk 17 52 ?_ rfl (by kernel_rfl) (fun _ _ _ h => h) (by kernel_rfl) ?_ hHeld ?_
  rotate_left
  · intro w1 hSw; (try dsimp only at hSw); go_simp <;> with_reducible rfl
  try simp only [zz]
  refine wpAnyH_take (i := 18) (oi := ⟨some 53, _, _, _, _, _⟩) (v := undef) rfl (by kernel_rfl) (by kernel_rfl) (by kernel_rfl) (fun _ _ _ h => h) (Or.inr ⟨by kernel_rfl, rfl⟩) hHeld ?_
  try simp only [zz]
  refine st1 19 (by kernel_rfl) rfl (fun K hK => ?_)
  refine step_off (by kernel_rfl) ?_
  try go_simp
  refine hK.out _ _ hHeld (fun hHeld => ?_)
  clear hK K
  try simp only [zz]
  refine wpAnyH_take (i := 20) (oi := ⟨some 55, _, _, _, _, _⟩) (v := undef) rfl (by kernel_rfl) (by kernel_rfl) (by kernel_rfl) (fun _ _ _ h => h) (Or.inr ⟨by kernel_rfl, rfl⟩) hHeld ?_
  try simp only [zz]
  refine tk 21 56 ?_ rfl (by kernel_rfl) (fun _ _ _ h => h) (by kernel_rfl) ?_ hHeld ?_
  rotate_left
  · intro w1 hSw; (try dsimp only at hSw); go_simp <;> with_reducible rfl
  try simp only [zz]
  refine wpAnyH_done (by kernel_rfl) ?_ _
  go_wp2_with fail
  go_meet
  exact ⟨rfl, Lib.hid (HK.out.old hHeld)⟩
 case rest =>
 clear HK
 obtain ⟨rfl, HK⟩ := hcut
 have HV := HK
 go_wp2_with (first | (go_at_call 7; refine (awake_ok _ HV.out.1).mono ?_; rintro e w2 ⟨rfl, hb⟩; replace HV := Lib.hid (HV.out.old hb); clear hb))
 go_ret
 exact ⟨rfl, HV.out.2.2.2⟩
set_option maxRecDepth 100000 in
set_option maxHeartbeats 8000000 in
theorem within_out2 (rs rf rl ra rb a b c d x y g8 y16 z16 l0 l1 l2 nz o0 o1 o2 o3 E1 : Int) (w : World) (hA : AwT w) (hRr : ∀ W, Calls Tryz.prog 25 #[.agg #[.int .i64 rs, .int .i64 rf, .int .i64 rl, .int .i64 ra, .int .i64 rb]] W fun e w' => e = .returned (.int .i64 0) ∧ Below W.heap.size W w') (hNr : ∀ W, Calls Tryz.prog 17 #[.agg #[.int .i64 1, .int .i64 0, .int .i64 c, .int .i64 d, .int .i64 x, .int .i64 y], .int .i64 8000] W fun e w' => e = .returned (.bool false) ∧ Below W.heap.size W w') (hCs : ∀ W, Calls Tryz.prog 26 #[.agg #[.int .i64 a, .int .i64 b, .int .i64 c, .int .i64 d, .int .i64 x, .int .i64 y]] W fun e w' => e = .returned (.int .i64 E1) ∧ Below W.heap.size W w') : Calls Tryz.prog 5 #[.agg #[.int .i64 rs, .int .i64 rf, .int .i64 rl, .int .i64 ra, .int .i64 rb], .agg #[.int .i64 a, .int .i64 b, .int .i64 c, .int .i64 d, .int .i64 x, .int .i64 y], .agg #[.int .u8 g8, .int .u16 y16, .int .u16 z16, .int .u16 l0, .int .u16 l1, .int .u16 l2, .int .u8 nz, .int .i8 o0, .int .i8 o1, .int .i8 o2, .int .i8 o3]] w fun e w' => e = .returned (.bool true) ∧ Below w.heap.size w w' := by
 have HK : Hid (KpT w [((w.heap.size + 1 + 1), 69, (xh11 g8 y16 z16 l0 l1 l2 nz o0 o1 o2 o3)), ((w.heap.size + 1), 42, (i6 a b c d x y)), (w.heap.size, 63, (r5 rs rf rl ra rb))] [] (((w.alloc (.cells #[.int .i64 rs, .int .i64 rf, .int .i64 rl, .int .i64 ra, .int .i64 rb] 63)).alloc (.cells #[.int .i64 a, .int .i64 b, .int .i64 c, .int .i64 d, .int .i64 x, .int .i64 y] 42)).alloc (.cells #[.int .u8 g8, .int .u16 y16, .int .u16 z16, .int .u16 l0, .int .u16 l1, .int .u16 l2, .int .u8 nz, .int .i8 o0, .int .i8 o1, .int .i8 o2, .int .i8 o3] 69))) := Lib.hid (KpT.cons (KpT.cons (KpT.cons (KpT.old (V := w) ⟨hA, fun r h => (List.not_mem_nil h).elim, fun r h => (List.not_mem_nil h).elim, Below.refl _ _⟩ ((((Below.refl _ _).alloc (Nat.le_refl _) _).alloc (by simp) _).alloc (by simp only [World.size_alloc]; omega) _)) (((Row.new w 63 [.int .i64 rs, .int .i64 rf, .int .i64 rl, .int .i64 ra, .int .i64 rb]).alloc _).alloc _)) (row2.alloc _)) row3)
 replace hRr := Lib.hid hRr; replace hNr := Lib.hid hNr; replace hCs := Lib.hid hCs
 clear hA
 go_enter Tryz.func5, Tryz.ntmps5
 go_upto_region 1 with fail
 refine genT (fun V => KpT w [((w.heap.size + 1 + 1), 69, (xh11 g8 y16 z16 l0 l1 l2 nz o0 o1 o2 o3)), ((w.heap.size + 1), 42, (i6 a b c d x y)), (w.heap.size, 63, (r5 rs rf rl ra rb))] [] V) HK.out ?_
 clear HK
 intro wc s0
 have HK := Lib.hid s0
 clear s0
 go_cut [56] from 35 to 55 (fun s56 wx => s56 = .bool true ∧ Hid (KpT w [((w.heap.size + 1 + 1), 69, (xh11 g8 y16 z16 l0 l1 l2 nz o0 o1 o2 o3)), ((w.heap.size + 1), 42, (i6 a b c d x y)), (w.heap.size, 63, (r5 rs rf rl ra rb))] [] wx))
 case first =>
  refine wp_region_held_drew (S := fun V => Below wc.heap.size wc V) (by kernel_rfl) ?_ (fun hHeld => ?_)
  · exact (Below.refl _ _).drew
  refine st1 0 (by kernel_rfl) rfl (fun K hK => ?_)
  go_simp
  go_at_call 7
  refine (awake_ok _ (HK.out.old hHeld).1).mono ?_
  rintro e v0 ⟨rfl, hb0⟩
  have hz0 := hb0.size
  try simp only [World.size_alloc, size_drewT] at hz0
  try go_simp
  refine hK.out _ _ ?_ (fun hHeld => ?_)
  · exact hHeld.trans (hb0.mono hHeld.size)
  clear hK K
  try simp only [zz]
  refine tk 1 36 ?_ rfl (by kernel_rfl) (fun _ _ _ h => h) (by kernel_rfl) ?_ hHeld ?_
  rotate_left
  · intro w1 hSw; (try dsimp only at hSw); go_simp <;> with_reducible rfl
  try simp only [zz]
  refine tk 2 37 ?_ rfl (by kernel_rfl) (fun _ _ _ h => h) (by kernel_rfl) ?_ hHeld ?_
  rotate_left
  · intro w1 hSw; (try dsimp only at hSw); go_simp <;> with_reducible rfl
  try simp only [zz]
  refine tk 3 38 (.agg #[.int .i64 rs, .int .i64 rf, .int .i64 rl, .int .i64 ra, .int .i64 rb]) rfl (by kernel_rfl) (fun _ _ _ h => h) (by kernel_rfl) (fun V hV => ex_rowT 63 _ rfl (w.heap.size) rfl 63 [.int .i64 rs, .int .i64 rf, .int .i64 rl, .int .i64 ra, .int .i64 rb] _ Tryz.underlying63 rfl (by kernel_rfl) ((HK.out.old hV).row w.heap.size 63 (r5 rs rf rl ra rb) (.tail _ (.tail _ (.head _))))) hHeld ?_
  try simp only [zz]
  refine st1 4 (by kernel_rfl) rfl (fun K hK => ?_)
  go_simp
  go_at_call 25
  refine (hRr.out _).mono ?_
  rintro e v4 ⟨rfl, hb4⟩
  have hz4 := hb4.size
  try simp only [World.size_alloc, size_drewT] at hz4
  try go_simp
  refine hK.out _ _ ?_ (fun hHeld => ?_)
  · exact hHeld.trans (hb4.mono hHeld.size)
  clear hK K
  try simp only [zz]
  refine tk 5 40 ?_ rfl (by kernel_rfl) (fun _ _ _ h => h) (by kernel_rfl) ?_ hHeld ?_
  rotate_left
  · intro w1 hSw; (try dsimp only at hSw); go_simp <;> with_reducible rfl
  try simp only [zz]
  refine tk 6 41 ?_ rfl (by kernel_rfl) (fun _ _ _ h => h) (by kernel_rfl) ?_ hHeld ?_
  rotate_left
  · intro w1 hSw; (try dsimp only at hSw); go_simp <;> with_reducible rfl
  try simp only [zz]
  refine tk 7 42 ?_ rfl (by kernel_rfl) (fun _ _ _ h => h) (by kernel_rfl) ?_ hHeld ?_
  rotate_left
  · intro w1 hSw; (try dsimp only at hSw); go_simp <;> with_reducible rfl
  try simp only [zz]
  refine tk 9 44 ?_ rfl (by kernel_rfl) (fun _ _ _ h => h) (by kernel_rfl) ?_ hHeld ?_
  rotate_left
  · intro w1 hSw; (try dsimp only at hSw); go_simp <;> with_reducible rfl
  try simp only [zz]
  refine tk 10 45 (.agg #[.int .i64 c, .int .i64 d]) rfl (by kernel_rfl) (fun _ _ _ h => h) (by kernel_rfl) (fun V hV => ex_Gauss _ rfl ((w.heap.size + 1)) 2 rfl (((HK.out.old hV).row (w.heap.size + 1) 42 (i6 a b c d x y) (.tail _ (.head _))).cell 2) (((HK.out.old hV).row (w.heap.size + 1) 42 (i6 a b c d x y) (.tail _ (.head _))).cell 3)) hHeld ?_
  try simp only [zz]
  refine tk 11 46 ?_ rfl (by kernel_rfl) (fun _ _ _ h => h) (by kernel_rfl) ?_ hHeld ?_
  rotate_left
  · intro w1 hSw; (try dsimp only at hSw); go_simp <;> with_reducible rfl
  try simp only [zz]
  refine tk 12 47 (.agg #[.int .i64 x, .int .i64 y]) rfl (by kernel_rfl) (fun _ _ _ h => h) (by kernel_rfl) (fun V hV => ex_Gauss _ rfl ((w.heap.size + 1)) 4 rfl (((HK.out.old hV).row (w.heap.size + 1) 42 (i6 a b c d x y) (.tail _ (.head _))).cell 4) (((HK.out.old hV).row (w.heap.size + 1) 42 (i6 a b c d x y) (.tail _ (.head _))).cell 5)) hHeld ?_
  try simp only [zz]
  refine st1 8 (by kernel_rfl) rfl (fun K hK => ?_)
  go_simp
  go_at_call 18
  refine (at2_any _ _ _).mono ?_
  rintro e v8 ⟨rfl, hb8⟩
  have hz8 := hb8.size
  try simp only [World.size_alloc, size_drewT] at hz8
  try go_simp
  refine hK.out _ _ ?_ (fun hHeld => ?_)
  · exact hHeld.trans (hb8.mono hHeld.size)
  clear hK K
  try simp only [zz]
  refine tk 13 48 ?_ rfl (by kernel_rfl) (fun _ _ _ h => h) (by kernel_rfl) ?_ hHeld ?_
  rotate_left
  · intro w1 hSw; (try dsimp only at hSw); go_simp <;> with_reducible rfl
  try simp only [zz]
  refine st1 14 (by kernel_rfl) rfl (fun K hK => ?_)
  go_simp
  go_at_call 17
  refine (hNr.out _).mono ?_
  rintro e v14 ⟨rfl, hb14⟩
  have hz14 := hb14.size
  try simp only [World.size_alloc, size_drewT] at hz14
  try go_simp
  refine hK.out _ _ ?_ (fun hHeld => ?_)
  · exact hHeld.trans (hb14.mono hHeld.size)
  clear hK K
  try simp only [zz]
  refine tk 15 50 ?_ rfl (by kernel_rfl) (fun _ _ _ h => h) (by kernel_rfl) ?_ hHeld ?_
  rotate_left
  · intro w1 hSw; (try dsimp only at hSw); go_simp <;> with_reducible rfl
  try simp only [zz]
  refine tk 16 51 ?_ rfl (by kernel_rfl) (fun _ _ _ h => h) (by kernel_rfl) ?_ hHeld ?_
  rotate_left
  · intro w1 hSw; (try dsimp only at hSw); go_simp <;> with_reducible rfl
  try simp only [zz]
  refine tk 17 52 ?_ rfl (by kernel_rfl) (fun _ _ _ h => h) (by kernel_rfl) ?_ hHeld ?_
  rotate_left
  · intro w1 hSw; (try dsimp only at hSw); go_simp <;> with_reducible rfl
  try simp only [zz]
  refine wpAnyH_take (i := 18) (oi := ⟨some 53, _, _, _, _, _⟩) (v := undef) rfl (by kernel_rfl) (by kernel_rfl) (by kernel_rfl) (fun _ _ _ h => h) (Or.inr ⟨by kernel_rfl, rfl⟩) hHeld ?_
  try simp only [zz]
  refine st1 19 (by kernel_rfl) rfl (fun K hK => ?_)
  refine step_off (by kernel_rfl) ?_
  try go_simp
  refine hK.out _ _ hHeld (fun hHeld => ?_)
  clear hK K
  try simp only [zz]
  refine wpAnyH_take (i := 20) (oi := ⟨some 55, _, _, _, _, _⟩) (v := undef) rfl (by kernel_rfl) (by kernel_rfl) (by kernel_rfl) (fun _ _ _ h => h) (Or.inr ⟨by kernel_rfl, rfl⟩) hHeld ?_
  try simp only [zz]
  refine tk 21 56 ?_ rfl (by kernel_rfl) (fun _ _ _ h => h) (by kernel_rfl) ?_ hHeld ?_
  rotate_left
  · intro w1 hSw; (try dsimp only at hSw); go_simp <;> with_reducible rfl
  try simp only [zz]
  refine wpAnyH_done (by kernel_rfl) ?_ _
  go_wp2_with fail
  go_meet
  exact ⟨rfl, Lib.hid (HK.out.old hHeld)⟩
 case rest =>
 clear HK
 obtain ⟨rfl, HK⟩ := hcut
 have HV := HK
 go_wp2_with (first | (go_at_call 7; refine (awake_ok _ HV.out.1).mono ?_; rintro e w2 ⟨rfl, hb⟩; replace HV := Lib.hid (HV.out.old hb); clear hb))
 go_ret
 exact ⟨rfl, HV.out.2.2.2⟩
set_option maxRecDepth 100000 in
set_option maxHeartbeats 8000000 in
theorem within_out3 (rs rf rl ra rb a b c d x y g8 y16 z16 l0 l1 l2 nz o0 o1 o2 o3 E1 : Int) (w : World) (hA : AwT w) (hRr : ∀ W, Calls Tryz.prog 25 #[.agg #[.int .i64 rs, .int .i64 rf, .int .i64 rl, .int .i64 ra, .int .i64 rb]] W fun e w' => e = .returned (.int .i64 0) ∧ Below W.heap.size W w') (hNr : ∀ W, Calls Tryz.prog 17 #[.agg #[.int .i64 1, .int .i64 0, .int .i64 c, .int .i64 d, .int .i64 x, .int .i64 y], .int .i64 8000] W fun e w' => e = .returned (.bool true) ∧ Below W.heap.size W w') (hCs : ∀ W, Calls Tryz.prog 26 #[.agg #[.int .i64 a, .int .i64 b, .int .i64 c, .int .i64 d, .int .i64 x, .int .i64 y]] W fun e w' => e = .returned (.int .i64 E1) ∧ Below W.heap.size W w') (h0 : E1 ≠ 0) : Calls Tryz.prog 5 #[.agg #[.int .i64 rs, .int .i64 rf, .int .i64 rl, .int .i64 ra, .int .i64 rb], .agg #[.int .i64 a, .int .i64 b, .int .i64 c, .int .i64 d, .int .i64 x, .int .i64 y], .agg #[.int .u8 g8, .int .u16 y16, .int .u16 z16, .int .u16 l0, .int .u16 l1, .int .u16 l2, .int .u8 nz, .int .i8 o0, .int .i8 o1, .int .i8 o2, .int .i8 o3]] w fun e w' => e = .returned (.bool true) ∧ Below w.heap.size w w' := by
 have HK : Hid (KpT w [((w.heap.size + 1 + 1), 69, (xh11 g8 y16 z16 l0 l1 l2 nz o0 o1 o2 o3)), ((w.heap.size + 1), 42, (i6 a b c d x y)), (w.heap.size, 63, (r5 rs rf rl ra rb))] [] (((w.alloc (.cells #[.int .i64 rs, .int .i64 rf, .int .i64 rl, .int .i64 ra, .int .i64 rb] 63)).alloc (.cells #[.int .i64 a, .int .i64 b, .int .i64 c, .int .i64 d, .int .i64 x, .int .i64 y] 42)).alloc (.cells #[.int .u8 g8, .int .u16 y16, .int .u16 z16, .int .u16 l0, .int .u16 l1, .int .u16 l2, .int .u8 nz, .int .i8 o0, .int .i8 o1, .int .i8 o2, .int .i8 o3] 69))) := Lib.hid (KpT.cons (KpT.cons (KpT.cons (KpT.old (V := w) ⟨hA, fun r h => (List.not_mem_nil h).elim, fun r h => (List.not_mem_nil h).elim, Below.refl _ _⟩ ((((Below.refl _ _).alloc (Nat.le_refl _) _).alloc (by simp) _).alloc (by simp only [World.size_alloc]; omega) _)) (((Row.new w 63 [.int .i64 rs, .int .i64 rf, .int .i64 rl, .int .i64 ra, .int .i64 rb]).alloc _).alloc _)) (row2.alloc _)) row3)
 replace hRr := Lib.hid hRr; replace hNr := Lib.hid hNr; replace hCs := Lib.hid hCs
 clear hA
 have hz : (E1 != 0) = true := by simpa using h0
 clear h0
 go_enter Tryz.func5, Tryz.ntmps5
 go_upto_region 1 with fail
 refine genT (fun V => KpT w [((w.heap.size + 1 + 1), 69, (xh11 g8 y16 z16 l0 l1 l2 nz o0 o1 o2 o3)), ((w.heap.size + 1), 42, (i6 a b c d x y)), (w.heap.size, 63, (r5 rs rf rl ra rb))] [] V) HK.out ?_
 clear HK
 intro wc s0
 have HK := Lib.hid s0
 clear s0
 go_cut [56] from 35 to 55 (fun s56 wx => s56 = .bool true ∧ Hid (KpT w [((w.heap.size + 1 + 1), 69, (xh11 g8 y16 z16 l0 l1 l2 nz o0 o1 o2 o3)), ((w.heap.size + 1), 42, (i6 a b c d x y)), (w.heap.size, 63, (r5 rs rf rl ra rb))] [] wx))
 case first =>
  refine wp_region_held_drew (S := fun V => Below wc.heap.size wc V) (by kernel_rfl) ?_ (fun hHeld => ?_)
  · exact (Below.refl _ _).drew
  refine st1 0 (by kernel_rfl) rfl (fun K hK => ?_)
  go_simp
  go_at_call 7
  refine (awake_ok _ (HK.out.old hHeld).1).mono ?_
  rintro e v0 ⟨rfl, hb0⟩
  have hz0 := hb0.size
  try simp only [World.size_alloc, size_drewT] at hz0
  try go_simp
  refine hK.out _ _ ?_ (fun hHeld => ?_)
  · exact hHeld.trans (hb0.mono hHeld.size)
  clear hK K
  try simp only [zz]
  refine tk 1 36 ?_ rfl (by kernel_rfl) (fun _ _ _ h => h) (by kernel_rfl) ?_ hHeld ?_
  rotate_left
  · intro w1 hSw; (try dsimp only at hSw); go_simp <;> with_reducible rfl
  try simp only [zz]
  refine tk 2 37 ?_ rfl (by kernel_rfl) (fun _ _ _ h => h) (by kernel_rfl) ?_ hHeld ?_
  rotate_left
  · intro w1 hSw; (try dsimp only at hSw); go_simp <;> with_reducible rfl
  try simp only [zz]
  refine tk 3 38 (.agg #[.int .i64 rs, .int .i64 rf, .int .i64 rl, .int .i64 ra, .int .i64 rb]) rfl (by kernel_rfl) (fun _ _ _ h => h) (by kernel_rfl) (fun V hV => ex_rowT 63 _ rfl (w.heap.size) rfl 63 [.int .i64 rs, .int .i64 rf, .int .i64 rl, .int .i64 ra, .int .i64 rb] _ Tryz.underlying63 rfl (by kernel_rfl) ((HK.out.old hV).row w.heap.size 63 (r5 rs rf rl ra rb) (.tail _ (.tail _ (.head _))))) hHeld ?_
  try simp only [zz]
  refine st1 4 (by kernel_rfl) rfl (fun K hK => ?_)
  go_simp
  go_at_call 25
  refine (hRr.out _).mono ?_
  rintro e v4 ⟨rfl, hb4⟩
  have hz4 := hb4.size
  try simp only [World.size_alloc, size_drewT] at hz4
  try go_simp
  refine hK.out _ _ ?_ (fun hHeld => ?_)
  · exact hHeld.trans (hb4.mono hHeld.size)
  clear hK K
  try simp only [zz]
  refine tk 5 40 ?_ rfl (by kernel_rfl) (fun _ _ _ h => h) (by kernel_rfl) ?_ hHeld ?_
  rotate_left
  · intro w1 hSw; (try dsimp only at hSw); go_simp <;> with_reducible rfl
  try simp only [zz]
  refine tk 6 41 ?_ rfl (by kernel_rfl) (fun _ _ _ h => h) (by kernel_rfl) ?_ hHeld ?_
  rotate_left
  · intro w1 hSw; (try dsimp only at hSw); go_simp <;> with_reducible rfl
  try simp only [zz]
  refine tk 7 42 ?_ rfl (by kernel_rfl) (fun _ _ _ h => h) (by kernel_rfl) ?_ hHeld ?_
  rotate_left
  · intro w1 hSw; (try dsimp only at hSw); go_simp <;> with_reducible rfl
  try simp only [zz]
  refine tk 9 44 ?_ rfl (by kernel_rfl) (fun _ _ _ h => h) (by kernel_rfl) ?_ hHeld ?_
  rotate_left
  · intro w1 hSw; (try dsimp only at hSw); go_simp <;> with_reducible rfl
  try simp only [zz]
  refine tk 10 45 (.agg #[.int .i64 c, .int .i64 d]) rfl (by kernel_rfl) (fun _ _ _ h => h) (by kernel_rfl) (fun V hV => ex_Gauss _ rfl ((w.heap.size + 1)) 2 rfl (((HK.out.old hV).row (w.heap.size + 1) 42 (i6 a b c d x y) (.tail _ (.head _))).cell 2) (((HK.out.old hV).row (w.heap.size + 1) 42 (i6 a b c d x y) (.tail _ (.head _))).cell 3)) hHeld ?_
  try simp only [zz]
  refine tk 11 46 ?_ rfl (by kernel_rfl) (fun _ _ _ h => h) (by kernel_rfl) ?_ hHeld ?_
  rotate_left
  · intro w1 hSw; (try dsimp only at hSw); go_simp <;> with_reducible rfl
  try simp only [zz]
  refine tk 12 47 (.agg #[.int .i64 x, .int .i64 y]) rfl (by kernel_rfl) (fun _ _ _ h => h) (by kernel_rfl) (fun V hV => ex_Gauss _ rfl ((w.heap.size + 1)) 4 rfl (((HK.out.old hV).row (w.heap.size + 1) 42 (i6 a b c d x y) (.tail _ (.head _))).cell 4) (((HK.out.old hV).row (w.heap.size + 1) 42 (i6 a b c d x y) (.tail _ (.head _))).cell 5)) hHeld ?_
  try simp only [zz]
  refine st1 8 (by kernel_rfl) rfl (fun K hK => ?_)
  go_simp
  go_at_call 18
  refine (at2_any _ _ _).mono ?_
  rintro e v8 ⟨rfl, hb8⟩
  have hz8 := hb8.size
  try simp only [World.size_alloc, size_drewT] at hz8
  try go_simp
  refine hK.out _ _ ?_ (fun hHeld => ?_)
  · exact hHeld.trans (hb8.mono hHeld.size)
  clear hK K
  try simp only [zz]
  refine tk 13 48 ?_ rfl (by kernel_rfl) (fun _ _ _ h => h) (by kernel_rfl) ?_ hHeld ?_
  rotate_left
  · intro w1 hSw; (try dsimp only at hSw); go_simp <;> with_reducible rfl
  try simp only [zz]
  refine st1 14 (by kernel_rfl) rfl (fun K hK => ?_)
  go_simp
  go_at_call 17
  refine (hNr.out _).mono ?_
  rintro e v14 ⟨rfl, hb14⟩
  have hz14 := hb14.size
  try simp only [World.size_alloc, size_drewT] at hz14
  try go_simp
  refine hK.out _ _ ?_ (fun hHeld => ?_)
  · exact hHeld.trans (hb14.mono hHeld.size)
  clear hK K
  try simp only [zz]
  refine tk 15 50 ?_ rfl (by kernel_rfl) (fun _ _ _ h => h) (by kernel_rfl) ?_ hHeld ?_
  rotate_left
  · intro w1 hSw; (try dsimp only at hSw); go_simp <;> with_reducible rfl
  try simp only [zz]
  refine tk 16 51 ?_ rfl (by kernel_rfl) (fun _ _ _ h => h) (by kernel_rfl) ?_ hHeld ?_
  rotate_left
  · intro w1 hSw; (try dsimp only at hSw); go_simp <;> with_reducible rfl
  try simp only [zz]
  refine tk 17 52 ?_ rfl (by kernel_rfl) (fun _ _ _ h => h) (by kernel_rfl) ?_ hHeld ?_
  rotate_left
  · intro w1 hSw; (try dsimp only at hSw); go_simp <;> with_reducible rfl
  try simp only [zz]
  refine tk 18 53 (.agg #[.int .i64 a, .int .i64 b, .int .i64 c, .int .i64 d, .int .i64 x, .int .i64 y]) rfl (by kernel_rfl) (fun _ _ _ h => h) (by kernel_rfl) (fun V hV => ex_rowT 42 _ rfl ((w.heap.size + 1)) rfl 42 [.int .i64 a, .int .i64 b, .int .i64 c, .int .i64 d, .int .i64 x, .int .i64 y] _ Tryz.underlying42 rfl (by kernel_rfl) ((HK.out.old hV).row (w.heap.size + 1) 42 (i6 a b c d x y) (.tail _ (.head _)))) hHeld ?_
  try simp only [zz]
  refine st1 19 (by kernel_rfl) rfl (fun K hK => ?_)
  go_simp
  go_at_call 26
  refine (hCs.out _).mono ?_
  rintro e v19 ⟨rfl, hb19⟩
  have hz19 := hb19.size
  try simp only [World.size_alloc, size_drewT] at hz19
  try go_simp
  refine hK.out _ _ ?_ (fun hHeld => ?_)
  · exact hHeld.trans (hb19.mono hHeld.size)
  clear hK K
  try simp only [zz]
  refine tk 20 55 ?_ rfl (by kernel_rfl) (fun _ _ _ h => h) (by kernel_rfl) ?_ hHeld ?_
  rotate_left
  · intro w1 hSw; (try dsimp only at hSw); go_simp <;> with_reducible rfl
  try simp only [zz]
  refine tk 21 56 ?_ rfl (by kernel_rfl) (fun _ _ _ h => h) (by kernel_rfl) ?_ hHeld ?_
  rotate_left
  · intro w1 hSw; (try dsimp only at hSw); go_simp <;> with_reducible rfl
  try simp only [zz]
  refine wpAnyH_done (by kernel_rfl) ?_ _
  go_wp2_with fail
  go_meet
  exact ⟨rfl, Lib.hid (HK.out.old hHeld)⟩
 case rest =>
 clear HK
 obtain ⟨rfl, HK⟩ := hcut
 have HV := HK
 go_wp2_with (first | (go_at_call 7; refine (awake_ok _ HV.out.1).mono ?_; rintro e w2 ⟨rfl, hb⟩; replace HV := Lib.hid (HV.out.old hb); clear hb))
 go_ret
 exact ⟨rfl, HV.out.2.2.2⟩
end Go.Proofs.YtgbkblbfgknheaaGreatDoor
