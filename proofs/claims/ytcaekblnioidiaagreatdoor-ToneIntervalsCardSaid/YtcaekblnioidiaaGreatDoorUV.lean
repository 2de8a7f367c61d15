import Derived.Test.YtcaekblnioidiaaGreatDoorUU
import Derived.Test.YtcaekblnioidiaaGreatDoorM43
namespace Go.Proofs.YtcaekblnioidiaaGreatDoor
set_option linter.all false
open Go.RowKit Go.Fl
set_option linter.unusedVariables false
set_option linter.unusedSimpArgs false

set_option maxRecDepth 100000 in
set_option maxHeartbeats 4000000 in
theorem lostR_any (rs rf rl ra rb a b c d x y lo hi n Q p q mn mx : Int) (w : World) (HD : ∀ W, Calls Tryz.prog 79 #[.agg #[.int .i64 a, .int .i64 b, .int .i64 c, .int .i64 d, .int .i64 x, .int .i64 y]] W fun e w' => e = .returned (.int .i64 n) ∧ Below W.heap.size W w') (HQ : ∀ W, Calls Tryz.prog 14 #[.agg #[.int .i64 a, .int .i64 b, .int .i64 c, .int .i64 d, .int .i64 x, .int .i64 y]] W fun e w' => e = .returned (.int .i64 Q) ∧ Below W.heap.size W w') (HP : ∀ W, Calls Tryz.prog 101 #[.agg #[.int .i64 rs, .int .i64 rf, .int .i64 rl, .int .i64 ra, .int .i64 rb], .int .i64 (n * (1000 - lo)), .int .i64 (Q * 1000)] W fun e w' => e = .returned (.int .i64 p) ∧ Below W.heap.size W w') (HP2 : ∀ W, Calls Tryz.prog 101 #[.agg #[.int .i64 rs, .int .i64 rf, .int .i64 rl, .int .i64 ra, .int .i64 rb], .int .i64 (n * (1000 - hi)), .int .i64 (Q * 1000)] W fun e w' => e = .returned (.int .i64 q) ∧ Below W.heap.size W w') (bn : n.natAbs ≤ 1000000000) (bQ : 0 < Q ∧ Q ≤ 1000000000) (bl : 0 ≤ lo ∧ lo ≤ 1000) (bh : 0 ≤ hi ∧ hi ≤ 1000) (hmn : mn = min p q) (hmx : mx = max p q) : Calls Tryz.prog 41 #[.agg #[.int .i64 rs, .int .i64 rf, .int .i64 rl, .int .i64 ra, .int .i64 rb], .agg #[.int .i64 a, .int .i64 b, .int .i64 c, .int .i64 d, .int .i64 x, .int .i64 y], .agg #[.int .i64 lo, .int .i64 hi]] w fun e w' => e = .returned (.agg #[.int .i64 mn, .int .i64 mx]) ∧ Below w.heap.size w w' := by
 have HD := Lib.hid HD; have HQ := Lib.hid HQ; have HP := Lib.hid HP; have HP2 := Lib.hid HP2
 have b1 : (n * (1000 - lo)).natAbs ≤ 1000000000 * 1000 := by rw [Int.natAbs_mul]; exact Nat.mul_le_mul bn (by omega)
 have b2 : (n * (1000 - hi)).natAbs ≤ 1000000000 * 1000 := by rw [Int.natAbs_mul]; exact Nat.mul_le_mul bn (by omega)
 have e1 : IntKind.i64.wrap (1000 - lo) = 1000 - lo := IntWalk.i64_in _ (by omega)
 have e2 : IntKind.i64.wrap (1000 - hi) = 1000 - hi := IntWalk.i64_in _ (by omega)
 have e3 : IntKind.i64.wrap (n * (1000 - lo)) = n * (1000 - lo) := IntWalk.i64_in _ (by omega)
 have e4 : IntKind.i64.wrap (n * (1000 - hi)) = n * (1000 - hi) := IntWalk.i64_in _ (by omega)
 have e5 : IntKind.i64.wrap (Q * 1000) = Q * 1000 := IntWalk.i64_in _ (by omega)
 have HM := Lib.hid (And.intro hmn hmx)
 clear bn bQ bl bh b1 b2 hmn hmx
 go_enter Tryz.func41, Tryz.ntmps41
 go_upto_region 1 with fail
 refine genT (fun V => Row V (w.heap.size) 64 [.int .i64 rs, .int .i64 rf, .int .i64 rl, .int .i64 ra, .int .i64 rb] ∧ Row V (w.heap.size + 1) 25 [.int .i64 a, .int .i64 b, .int .i64 c, .int .i64 d, .int .i64 x, .int .i64 y] ∧ Row V (w.heap.size + 1 + 1) 62 [.int .i64 lo, .int .i64 hi] ∧ Row V (w.heap.size + 1 + 1 + 1) 62 [.int .i64 0, .int .i64 0] ∧ Below w.heap.size w V) ⟨(Row.alloc (Row.alloc (Row.alloc (rowAt _ _ (by first | rfl | simp only [World.size_alloc])) _) _) _), (Row.alloc (Row.alloc (rowAt _ _ (by first | rfl | simp only [World.size_alloc])) _) _), (Row.alloc (rowAt _ _ (by first | rfl | simp only [World.size_alloc])) _), (rowAt _ _ (by first | rfl | simp only [World.size_alloc])), (((((Below.refl _ _).alloc (by first | exact Nat.le_refl _ | (simp only [World.size_alloc]; omega)) _).alloc (by first | exact Nat.le_refl _ | (simp only [World.size_alloc]; omega)) _).alloc (by first | exact Nat.le_refl _ | (simp only [World.size_alloc]; omega)) _).alloc (by first | exact Nat.le_refl _ | (simp only [World.size_alloc]; omega)) _)⟩ ?_
 intro W1 s1
 have HS1 := Lib.hid s1
 clear s1
 have HSR : Hid (Row W1 (w.heap.size) 64 [.int .i64 rs, .int .i64 rf, .int .i64 rl, .int .i64 ra, .int .i64 rb] ∧ Row W1 (w.heap.size + 1) 25 [.int .i64 a, .int .i64 b, .int .i64 c, .int .i64 d, .int .i64 x, .int .i64 y] ∧ Row W1 (w.heap.size + 1 + 1) 62 [.int .i64 lo, .int .i64 hi] ∧ RowN W1 (w.heap.size + 1 + 1 + 1) 62 2 ∧ Below w.heap.size w W1) := ⟨HS1.out.1, HS1.out.2.1, HS1.out.2.2.1, ⟨_, rfl, HS1.out.2.2.2.1⟩, HS1.out.2.2.2.2⟩
 clear HS1
 refine wp_region_held_drew (S := fun V => Row V (w.heap.size) 64 [.int .i64 rs, .int .i64 rf, .int .i64 rl, .int .i64 ra, .int .i64 rb] ∧ Row V (w.heap.size + 1) 25 [.int .i64 a, .int .i64 b, .int .i64 c, .int .i64 d, .int .i64 x, .int .i64 y] ∧ Row V (w.heap.size + 1 + 1) 62 [.int .i64 lo, .int .i64 hi] ∧ RowN V (w.heap.size + 1 + 1 + 1) 62 2 ∧ Below w.heap.size w V) (by kernel_rfl) ?_ (fun hHeld => ?_)
 · exact ⟨(HSR.out.1).drew, (HSR.out.2.1).drew, (HSR.out.2.2.1).drew, (HSR.out.2.2.2.1).drew, (HSR.out.2.2.2.2).drew⟩
 refine tk 0 9 (.agg #[.int .i64 rs, .int .i64 rf, .int .i64 rl, .int .i64 ra, .int .i64 rb]) rfl (by kernel_rfl) (fun _ _ _ h => h) (by kernel_rfl) (fun V hV => ex_rowT 64 _ rfl (w.heap.size) rfl 64 [.int .i64 rs, .int .i64 rf, .int .i64 rl, .int .i64 ra, .int .i64 rb] _ Tryz.underlying64 rfl (by kernel_rfl) (hV.1)) hHeld ?_
 try simp only [zz]
 refine tk 1 10 (.agg #[.int .i64 a, .int .i64 b, .int .i64 c, .int .i64 d, .int .i64 x, .int .i64 y]) rfl (by kernel_rfl) (fun _ _ _ h => h) (by kernel_rfl) (fun V hV => ex_rowT 25 _ rfl (w.heap.size + 1) rfl 25 [.int .i64 a, .int .i64 b, .int .i64 c, .int .i64 d, .int .i64 x, .int .i64 y] _ Tryz.underlying25 rfl (by kernel_rfl) (hV.2.1)) hHeld ?_
 try simp only [zz]
 refine tk 3 12 ?_ rfl (by kernel_rfl) (fun _ _ _ h => h) (by kernel_rfl) ?_ hHeld ?_
 rotate_left
 · intro w1 hSw; (try dsimp only at hSw); go_simp <;> with_reducible rfl
 try simp only [zz]
 refine tk 4 13 ?_ rfl (by kernel_rfl) (fun _ _ _ h => h) (by kernel_rfl) ?_ hHeld ?_
 rotate_left
 · intro w1 hSw; (try dsimp only at hSw); have cc := (hSw.2.2.1).cell 0; simp only [List.getElem?_cons_succ, List.getElem?_cons_zero] at cc; go_simp <;> with_reducible rfl
 try simp only [zz]
 refine tk 5 14 ?_ rfl (by kernel_rfl) (fun _ _ _ h => h) (by kernel_rfl) ?_ hHeld ?_
 rotate_left
 · intro w1 hSw; (try dsimp only at hSw); go_simp <;> with_reducible rfl
 try simp only [zz]
 refine tk 7 16 (.agg #[.int .i64 a, .int .i64 b, .int .i64 c, .int .i64 d, .int .i64 x, .int .i64 y]) rfl (by kernel_rfl) (fun _ _ _ h => h) (by kernel_rfl) (fun V hV => ex_rowT 25 _ rfl (w.heap.size + 1) rfl 25 [.int .i64 a, .int .i64 b, .int .i64 c, .int .i64 d, .int .i64 x, .int .i64 y] _ Tryz.underlying25 rfl (by kernel_rfl) (hV.2.1)) hHeld ?_
 try simp only [zz]
 refine st1 2 (by kernel_rfl) rfl (fun K hK => ?_)
 go_simp
 go_at_call 79
 refine (HD.out _).mono ?_
 rintro e v2 ⟨rfl, hb2⟩
 try go_simp
 refine hK.out _ _ ?_ (fun hHeld => ?_)
 · exact ⟨(hHeld.1).old hb2, (hHeld.2.1).old hb2, (hHeld.2.2.1).old hb2, (hHeld.2.2.2.1).old hb2, (hHeld.2.2.2.2).trans ((hb2).mono (hHeld.2.2.2.2).size)⟩
 clear hK K
 try simp only [zz]
 refine tk 6 15 ?_ rfl (by kernel_rfl) (fun _ _ _ h => h) (by kernel_rfl) ?_ hHeld ?_
 rotate_left
 · intro w1 hSw; (try dsimp only at hSw); go_simp <;> with_reducible rfl
 try simp only [zz]
 refine st1 8 (by kernel_rfl) rfl (fun K hK => ?_)
 go_simp
 go_at_call 14
 refine (HQ.out _).mono ?_
 rintro e v8 ⟨rfl, hb8⟩
 try go_simp
 refine hK.out _ _ ?_ (fun hHeld => ?_)
 · exact ⟨(hHeld.1).old hb8, (hHeld.2.1).old hb8, (hHeld.2.2.1).old hb8, (hHeld.2.2.2.1).old hb8, (hHeld.2.2.2.2).trans ((hb8).mono (hHeld.2.2.2.2).size)⟩
 clear hK K
 try simp only [zz]
 refine tk 9 18 ?_ rfl (by kernel_rfl) (fun _ _ _ h => h) (by kernel_rfl) ?_ hHeld ?_
 rotate_left
 · intro w1 hSw; (try dsimp only at hSw); go_simp <;> with_reducible rfl
 try simp only [zz]
 refine st1 10 (by kernel_rfl) rfl (fun K hK => ?_)
 go_simp
 go_at_call 101
 refine (HP.out _).mono ?_
 rintro e v10 ⟨rfl, hb10⟩
 try go_simp
 refine hK.out _ _ ?_ (fun hHeld => ?_)
 · exact ⟨(hHeld.1).old hb10, (hHeld.2.1).old hb10, (hHeld.2.2.1).old hb10, (hHeld.2.2.2.1).old hb10, (hHeld.2.2.2.2).trans ((hb10).mono (hHeld.2.2.2.2).size)⟩
 clear hK K
 try simp only [zz]
 refine tk 11 7 ?_ rfl (by kernel_rfl) (fun _ _ _ h => h) (by kernel_rfl) ?_ hHeld ?_
 rotate_left
 · intro w1 hSw; (try dsimp only at hSw); go_simp <;> with_reducible rfl
 try simp only [zz]
 refine wpAnyH_done (by kernel_rfl) ?_ _
 go_upto_region 2 with fail
 have HS2 := Lib.hid hHeld
 clear hHeld HSR
 refine wp_region_held_drew (S := fun V => Row V (w.heap.size) 64 [.int .i64 rs, .int .i64 rf, .int .i64 rl, .int .i64 ra, .int .i64 rb] ∧ Row V (w.heap.size + 1) 25 [.int .i64 a, .int .i64 b, .int .i64 c, .int .i64 d, .int .i64 x, .int .i64 y] ∧ Row V (w.heap.size + 1 + 1) 62 [.int .i64 lo, .int .i64 hi] ∧ RowN V (w.heap.size + 1 + 1 + 1) 62 2 ∧ Below w.heap.size w V) (by kernel_rfl) ?_ (fun hHeld => ?_)
 · exact ⟨(HS2.out.1).drew, (HS2.out.2.1).drew, (HS2.out.2.2.1).drew, (HS2.out.2.2.2.1).drew, (HS2.out.2.2.2.2).drew⟩
 refine tk 0 20 (.agg #[.int .i64 rs, .int .i64 rf, .int .i64 rl, .int .i64 ra, .int .i64 rb]) rfl (by kernel_rfl) (fun _ _ _ h => h) (by kernel_rfl) (fun V hV => ex_rowT 64 _ rfl (w.heap.size) rfl 64 [.int .i64 rs, .int .i64 rf, .int .i64 rl, .int .i64 ra, .int .i64 rb] _ Tryz.underlying64 rfl (by kernel_rfl) (hV.1)) hHeld ?_
 try simp only [zz]
 refine tk 1 21 (.agg #[.int .i64 a, .int .i64 b, .int .i64 c, .int .i64 d, .int .i64 x, .int .i64 y]) rfl (by kernel_rfl) (fun _ _ _ h => h) (by kernel_rfl) (fun V hV => ex_rowT 25 _ rfl (w.heap.size + 1) rfl 25 [.int .i64 a, .int .i64 b, .int .i64 c, .int .i64 d, .int .i64 x, .int .i64 y] _ Tryz.underlying25 rfl (by kernel_rfl) (hV.2.1)) hHeld ?_
 try simp only [zz]
 refine tk 3 23 ?_ rfl (by kernel_rfl) (fun _ _ _ h => h) (by kernel_rfl) ?_ hHeld ?_
 rotate_left
 · intro w1 hSw; (try dsimp only at hSw); go_simp <;> with_reducible rfl
 try simp only [zz]
 refine tk 4 24 ?_ rfl (by kernel_rfl) (fun _ _ _ h => h) (by kernel_rfl) ?_ hHeld ?_
 rotate_left
 · intro w1 hSw; (try dsimp only at hSw); have cc := (hSw.2.2.1).cell 1; simp only [List.getElem?_cons_succ, List.getElem?_cons_zero] at cc; go_simp <;> with_reducible rfl
 try simp only [zz]
 refine tk 5 25 ?_ rfl (by kernel_rfl) (fun _ _ _ h => h) (by kernel_rfl) ?_ hHeld ?_
 rotate_left
 · intro w1 hSw; (try dsimp only at hSw); go_simp <;> with_reducible rfl
 try simp only [zz]
 refine tk 7 27 (.agg #[.int .i64 a, .int .i64 b, .int .i64 c, .int .i64 d, .int .i64 x, .int .i64 y]) rfl (by kernel_rfl) (fun _ _ _ h => h) (by kernel_rfl) (fun V hV => ex_rowT 25 _ rfl (w.heap.size + 1) rfl 25 [.int .i64 a, .int .i64 b, .int .i64 c, .int .i64 d, .int .i64 x, .int .i64 y] _ Tryz.underlying25 rfl (by kernel_rfl) (hV.2.1)) hHeld ?_
 try simp only [zz]
 refine st1 2 (by kernel_rfl) rfl (fun K hK => ?_)
 go_simp
 go_at_call 79
 refine (HD.out _).mono ?_
 rintro e v2 ⟨rfl, hb2⟩
 try go_simp
 refine hK.out _ _ ?_ (fun hHeld => ?_)
 · exact ⟨(hHeld.1).old hb2, (hHeld.2.1).old hb2, (hHeld.2.2.1).old hb2, (hHeld.2.2.2.1).old hb2, (hHeld.2.2.2.2).trans ((hb2).mono (hHeld.2.2.2.2).size)⟩
 clear hK K
 try simp only [zz]
 refine tk 6 26 ?_ rfl (by kernel_rfl) (fun _ _ _ h => h) (by kernel_rfl) ?_ hHeld ?_
 rotate_left
 · intro w1 hSw; (try dsimp only at hSw); go_simp <;> with_reducible rfl
 try simp only [zz]
 refine st1 8 (by kernel_rfl) rfl (fun K hK => ?_)
 go_simp
 go_at_call 14
 refine (HQ.out _).mono ?_
 rintro e v8 ⟨rfl, hb8⟩
 try go_simp
 refine hK.out _ _ ?_ (fun hHeld => ?_)
 · exact ⟨(hHeld.1).old hb8, (hHeld.2.1).old hb8, (hHeld.2.2.1).old hb8, (hHeld.2.2.2.1).old hb8, (hHeld.2.2.2.2).trans ((hb8).mono (hHeld.2.2.2.2).size)⟩
 clear hK K
 try simp only [zz]
 refine tk 9 29 ?_ rfl (by kernel_rfl) (fun _ _ _ h => h) (by kernel_rfl) ?_ hHeld ?_
 rotate_left
 · intro w1 hSw; (try dsimp only at hSw); go_simp <;> with_reducible rfl
 try simp only [zz]
 refine st1 10 (by kernel_rfl) rfl (fun K hK => ?_)
 go_simp
 go_at_call 101
 refine (HP2.out _).mono ?_
 rintro e v10 ⟨rfl, hb10⟩
 try go_simp
 refine hK.out _ _ ?_ (fun hHeld => ?_)
 · exact ⟨(hHeld.1).old hb10, (hHeld.2.1).old hb10, (hHeld.2.2.1).old hb10, (hHeld.2.2.2.1).old hb10, (hHeld.2.2.2.2).trans ((hb10).mono (hHeld.2.2.2.2).size)⟩
 clear hK K
 try simp only [zz]
 refine tk 11 8 ?_ rfl (by kernel_rfl) (fun _ _ _ h => h) (by kernel_rfl) ?_ hHeld ?_
 rotate_left
 · intro w1 hSw; (try dsimp only at hSw); go_simp <;> with_reducible rfl
 try simp only [zz]
 refine wpAnyH_done (by kernel_rfl) ?_ _
 have HS3 := Lib.hid hHeld
 clear hHeld HS2
 obtain ⟨vs, hvl, hvr⟩ := HS3.out.2.2.2.1
 obtain ⟨u0, u1, rfl⟩ : ∃ a b, vs = [a, b] := by match vs, hvl with | [a, b], _ => exact ⟨a, b, rfl⟩
 have HB := Lib.hid HS3.out.2.2.2.2
 clear HS3 HD HQ HP HP2
 rcases Int.lt_trichotomy p q with hcc | hcc | hcc
 · obtain ⟨rfl, rfl⟩ : mn = p ∧ mx = q := ⟨by rw [HM.out.1]; omega, by rw [HM.out.2]; omega⟩
   have k1 : min mn mx = mn := by omega
   have k2 : max mn mx = mx := by omega
   clear HM
   go_wp2_with (refine wpList_store_row rfl 62 _ _ rfl (w.heap.size + 1 + 1 + 1) #[.int .i64 mn, .int .i64 mx] rfl rfl 62 _ hvr ?_ ?_ ?_ ?_; (kernel_rfl); (rfl); (simp [Value.oneCell']))
   refine bodyPost_ret (results_rowA rfl _ _ (w.heap.size + 1 + 1 + 1) 62 #[.int .i64 mn, .int .i64 mx] (0, 0) _ rfl (hvr.setRow [.int .i64 mn, .int .i64 mx]) Tryz.underlying62 rfl (by kernel_rfl)) rfl ⟨rfl, Below.setRow HB.out (by omega) _⟩
 · subst hcc
   obtain ⟨rfl, h2⟩ : mn = p ∧ mx = p := ⟨by rw [HM.out.1]; omega, by rw [HM.out.2]; omega⟩
   subst h2
   have k1 : min mx mx = mx := by omega
   have k2 : max mx mx = mx := by omega
   clear HM
   go_wp2_with (refine wpList_store_row rfl 62 _ _ rfl (w.heap.size + 1 + 1 + 1) #[.int .i64 mx, .int .i64 mx] rfl rfl 62 _ hvr ?_ ?_ ?_ ?_; (kernel_rfl); (rfl); (simp [Value.oneCell']))
   refine bodyPost_ret (results_rowA rfl _ _ (w.heap.size + 1 + 1 + 1) 62 #[.int .i64 mx, .int .i64 mx] (0, 0) _ rfl (hvr.setRow [.int .i64 mx, .int .i64 mx]) Tryz.underlying62 rfl (by kernel_rfl)) rfl ⟨rfl, Below.setRow HB.out (by omega) _⟩
 · obtain ⟨rfl, rfl⟩ : mn = q ∧ mx = p := ⟨by rw [HM.out.1]; omega, by rw [HM.out.2]; omega⟩
   have k1 : min mx mn = mn := by omega
   have k2 : max mx mn = mx := by omega
   clear HM
   go_wp2_with (refine wpList_store_row rfl 62 _ _ rfl (w.heap.size + 1 + 1 + 1) #[.int .i64 mn, .int .i64 mx] rfl rfl 62 _ hvr ?_ ?_ ?_ ?_; (kernel_rfl); (rfl); (simp [Value.oneCell']))
   refine bodyPost_ret (results_rowA rfl _ _ (w.heap.size + 1 + 1 + 1) 62 #[.int .i64 mn, .int .i64 mx] (0, 0) _ rfl (hvr.setRow [.int .i64 mn, .int .i64 mx]) Tryz.underlying62 rfl (by kernel_rfl)) rfl ⟨rfl, Below.setRow HB.out (by omega) _⟩
set_option maxRecDepth 100000 in
set_option maxHeartbeats 4000000 in
theorem noisyR_any (rs rf rl ra rb a b c d x y t n Q by0 p q : Int) (w : World) (HD : ∀ W, Calls Tryz.prog 79 #[.agg #[.int .i64 a, .int .i64 b, .int .i64 c, .int .i64 d, .int .i64 x, .int .i64 y]] W fun e w' => e = .returned (.int .i64 n) ∧ Below W.heap.size W w') (HQ : ∀ W, Calls Tryz.prog 14 #[.agg #[.int .i64 a, .int .i64 b, .int .i64 c, .int .i64 d, .int .i64 x, .int .i64 y]] W fun e w' => e = .returned (.int .i64 Q) ∧ Below W.heap.size W w') (HP : ∀ W, Calls Tryz.prog 101 #[.agg #[.int .i64 rs, .int .i64 rf, .int .i64 rl, .int .i64 ra, .int .i64 rb], .int .i64 (n - by0), .int .i64 Q] W fun e w' => e = .returned (.int .i64 p) ∧ Below W.heap.size W w') (HP2 : ∀ W, Calls Tryz.prog 101 #[.agg #[.int .i64 rs, .int .i64 rf, .int .i64 rl, .int .i64 ra, .int .i64 rb], .int .i64 (n + by0), .int .i64 Q] W fun e w' => e = .returned (.int .i64 q) ∧ Below W.heap.size W w') (bn : n.natAbs ≤ 1000000000) (bb : 0 ≤ by0 ∧ by0 ≤ 100000000) (hby : by0 = 2 * t * (max a (-a) + max b (-b))) (ht : 0 ≤ t ∧ t ≤ 1000) (ha : a.natAbs ≤ 10000) (hb : b.natAbs ≤ 10000) : Calls Tryz.prog 42 #[.agg #[.int .i64 rs, .int .i64 rf, .int .i64 rl, .int .i64 ra, .int .i64 rb], .agg #[.int .i64 a, .int .i64 b, .int .i64 c, .int .i64 d, .int .i64 x, .int .i64 y], .int .i64 t] w fun e w' => e = .returned (.agg #[.int .i64 p, .int .i64 q]) ∧ Below w.heap.size w w' := by
 have HD := Lib.hid HD; have HQ := Lib.hid HQ; have HP := Lib.hid HP; have HP2 := Lib.hid HP2
 obtain ⟨A, hA⟩ : ∃ A, A = max a (-a) := ⟨_, rfl⟩
 obtain ⟨B, hB⟩ : ∃ B, B = max b (-b) := ⟨_, rfl⟩
 have HA : Hid (∀ W, Calls Tryz.prog 102 #[.int .i64 a] W fun e w' => e = .returned (.int .i64 A) ∧ W = w') := fun W => by rw [hA]; exact absoluteR_any a W (by omega)
 have HB : Hid (∀ W, Calls Tryz.prog 102 #[.int .i64 b] W fun e w' => e = .returned (.int .i64 B) ∧ W = w') := fun W => by rw [hB]; exact absoluteR_any b W (by omega)
 rw [← hA, ← hB] at hby
 have e1 : IntKind.i64.wrap (2 * t) = 2 * t := IntWalk.i64_in _ (by omega)
 have e2 : IntKind.i64.wrap (A + B) = A + B := IntWalk.i64_in _ (by omega)
 have e3 : IntKind.i64.wrap (2 * t * (A + B)) = by0 := by rw [← hby]; exact IntWalk.i64_in _ (by omega)
 have e4 : IntKind.i64.wrap (n - by0) = n - by0 := IntWalk.i64_in _ (by omega)
 have e5 : IntKind.i64.wrap (n + by0) = n + by0 := IntWalk.i64_in _ (by omega)
 clear bn bb hby ht ha hb hA hB
 go_enter Tryz.func42, Tryz.ntmps42
 go_upto_region 1 with fail
 refine genT (fun V => Row V (w.heap.size) 64 [.int .i64 rs, .int .i64 rf, .int .i64 rl, .int .i64 ra, .int .i64 rb] ∧ Row V (w.heap.size + 1) 25 [.int .i64 a, .int .i64 b, .int .i64 c, .int .i64 d, .int .i64 x, .int .i64 y] ∧ Row V (w.heap.size + 1 + 1) 62 [.int .i64 0, .int .i64 0] ∧ Below w.heap.size w V) ⟨(Row.alloc (Row.alloc (rowAt _ _ (by first | rfl | simp only [World.size_alloc])) _) _), (Row.alloc (rowAt _ _ (by first | rfl | simp only [World.size_alloc])) _), (rowAt _ _ (by first | rfl | simp only [World.size_alloc])), ((((Below.refl _ _).alloc (by first | exact Nat.le_refl _ | (simp only [World.size_alloc]; omega)) _).alloc (by first | exact Nat.le_refl _ | (simp only [World.size_alloc]; omega)) _).alloc (by first | exact Nat.le_refl _ | (simp only [World.size_alloc]; omega)) _)⟩ ?_
 intro W1 s1
 have HS1 := Lib.hid s1
 clear s1
 have HSR : Hid (Row W1 (w.heap.size) 64 [.int .i64 rs, .int .i64 rf, .int .i64 rl, .int .i64 ra, .int .i64 rb] ∧ Row W1 (w.heap.size + 1) 25 [.int .i64 a, .int .i64 b, .int .i64 c, .int .i64 d, .int .i64 x, .int .i64 y] ∧ RowN W1 (w.heap.size + 1 + 1) 62 2 ∧ Below w.heap.size w W1) := ⟨HS1.out.1, HS1.out.2.1, ⟨_, rfl, HS1.out.2.2.1⟩, HS1.out.2.2.2⟩
 clear HS1
 refine wp_region_held_drew (S := fun V => Row V (w.heap.size) 64 [.int .i64 rs, .int .i64 rf, .int .i64 rl, .int .i64 ra, .int .i64 rb] ∧ Row V (w.heap.size + 1) 25 [.int .i64 a, .int .i64 b, .int .i64 c, .int .i64 d, .int .i64 x, .int .i64 y] ∧ RowN V (w.heap.size + 1 + 1) 62 2 ∧ Below w.heap.size w V) (by kernel_rfl) ?_ (fun hHeld => ?_)
 · exact ⟨(HSR.out.1).drew, (HSR.out.2.1).drew, (HSR.out.2.2.1).drew, (HSR.out.2.2.2).drew⟩
 refine tk 0 8 ?_ rfl (by kernel_rfl) (fun _ _ _ h => h) (by kernel_rfl) ?_ hHeld ?_
 rotate_left
 · intro w1 hSw; (try dsimp only at hSw); go_simp <;> with_reducible rfl
 try simp only [zz]
 refine tk 1 9 ?_ rfl (by kernel_rfl) (fun _ _ _ h => h) (by kernel_rfl) ?_ hHeld ?_
 rotate_left
 · intro w1 hSw; (try dsimp only at hSw); go_simp <;> with_reducible rfl
 try simp only [zz]
 refine tk 2 10 ?_ rfl (by kernel_rfl) (fun _ _ _ h => h) (by kernel_rfl) ?_ hHeld ?_
 rotate_left
 · intro w1 hSw; (try dsimp only at hSw); go_simp <;> with_reducible rfl
 try simp only [zz]
 refine tk 3 11 ?_ rfl (by kernel_rfl) (fun _ _ _ h => h) (by kernel_rfl) ?_ hHeld ?_
 rotate_left
 · intro w1 hSw; (try dsimp only at hSw); go_simp <;> with_reducible rfl
 try simp only [zz]
 refine tk 4 12 ?_ rfl (by kernel_rfl) (fun _ _ _ h => h) (by kernel_rfl) ?_ hHeld ?_
 rotate_left
 · intro w1 hSw; (try dsimp only at hSw); have cc := (hSw.2.1).cell 0; simp only [List.getElem?_cons_succ, List.getElem?_cons_zero] at cc; go_simp <;> with_reducible rfl
 try simp only [zz]
 refine tk 6 14 ?_ rfl (by kernel_rfl) (fun _ _ _ h => h) (by kernel_rfl) ?_ hHeld ?_
 rotate_left
 · intro w1 hSw; (try dsimp only at hSw); go_simp <;> with_reducible rfl
 try simp only [zz]
 refine tk 7 15 ?_ rfl (by kernel_rfl) (fun _ _ _ h => h) (by kernel_rfl) ?_ hHeld ?_
 rotate_left
 · intro w1 hSw; (try dsimp only at hSw); go_simp <;> with_reducible rfl
 try simp only [zz]
 refine tk 8 16 ?_ rfl (by kernel_rfl) (fun _ _ _ h => h) (by kernel_rfl) ?_ hHeld ?_
 rotate_left
 · intro w1 hSw; (try dsimp only at hSw); have cc := (hSw.2.1).cell 1; simp only [List.getElem?_cons_succ, List.getElem?_cons_zero] at cc; go_simp <;> with_reducible rfl
 try simp only [zz]
 refine st1 5 (by kernel_rfl) rfl (fun K hK => ?_)
 go_simp
 go_at_call 102
 refine (HA.out _).mono ?_
 rintro e v5 ⟨rfl, rfl⟩
 try go_simp
 refine hK.out _ _ ?_ (fun hHeld => ?_)
 · exact hHeld
 clear hK K
 try simp only [zz]
 refine st1 9 (by kernel_rfl) rfl (fun K hK => ?_)
 go_simp
 go_at_call 102
 refine (HB.out _).mono ?_
 rintro e v9 ⟨rfl, rfl⟩
 try go_simp
 refine hK.out _ _ ?_ (fun hHeld => ?_)
 · exact hHeld
 clear hK K
 try simp only [zz]
 refine tk 10 18 ?_ rfl (by kernel_rfl) (fun _ _ _ h => h) (by kernel_rfl) ?_ hHeld ?_
 rotate_left
 · intro w1 hSw; (try dsimp only at hSw); go_simp <;> with_reducible rfl
 try simp only [zz]
 refine tk 11 19 ?_ rfl (by kernel_rfl) (fun _ _ _ h => h) (by kernel_rfl) ?_ hHeld ?_
 rotate_left
 · intro w1 hSw; (try dsimp only at hSw); go_simp <;> with_reducible rfl
 try simp only [zz]
 refine tk 12 7 ?_ rfl (by kernel_rfl) (fun _ _ _ h => h) (by kernel_rfl) ?_ hHeld ?_
 rotate_left
 · intro w1 hSw; (try dsimp only at hSw); go_simp <;> with_reducible rfl
 try simp only [zz]
 refine wpAnyH_done (by kernel_rfl) ?_ _
 go_upto_region 2 with fail
 have HS2 := Lib.hid hHeld
 clear hHeld HSR
 refine wp_region_held_drew (S := fun V => Row V (w.heap.size) 64 [.int .i64 rs, .int .i64 rf, .int .i64 rl, .int .i64 ra, .int .i64 rb] ∧ Row V (w.heap.size + 1) 25 [.int .i64 a, .int .i64 b, .int .i64 c, .int .i64 d, .int .i64 x, .int .i64 y] ∧ RowN V (w.heap.size + 1 + 1) 62 2 ∧ Below w.heap.size w V) (by kernel_rfl) ?_ (fun hHeld => ?_)
 · exact ⟨(HS2.out.1).drew, (HS2.out.2.1).drew, (HS2.out.2.2.1).drew, (HS2.out.2.2.2).drew⟩
 refine tk 0 20 (.agg #[.int .i64 rs, .int .i64 rf, .int .i64 rl, .int .i64 ra, .int .i64 rb]) rfl (by kernel_rfl) (fun _ _ _ h => h) (by kernel_rfl) (fun V hV => ex_rowT 64 _ rfl (w.heap.size) rfl 64 [.int .i64 rs, .int .i64 rf, .int .i64 rl, .int .i64 ra, .int .i64 rb] _ Tryz.underlying64 rfl (by kernel_rfl) (hV.1)) hHeld ?_
 try simp only [zz]
 refine tk 1 21 (.agg #[.int .i64 a, .int .i64 b, .int .i64 c, .int .i64 d, .int .i64 x, .int .i64 y]) rfl (by kernel_rfl) (fun _ _ _ h => h) (by kernel_rfl) (fun V hV => ex_rowT 25 _ rfl (w.heap.size + 1) rfl 25 [.int .i64 a, .int .i64 b, .int .i64 c, .int .i64 d, .int .i64 x, .int .i64 y] _ Tryz.underlying25 rfl (by kernel_rfl) (hV.2.1)) hHeld ?_
 try simp only [zz]
 refine tk 3 23 ?_ rfl (by kernel_rfl) (fun _ _ _ h => h) (by kernel_rfl) ?_ hHeld ?_
 rotate_left
 · intro w1 hSw; (try dsimp only at hSw); go_simp <;> with_reducible rfl
 try simp only [zz]
 refine tk 5 25 (.agg #[.int .i64 a, .int .i64 b, .int .i64 c, .int .i64 d, .int .i64 x, .int .i64 y]) rfl (by kernel_rfl) (fun _ _ _ h => h) (by kernel_rfl) (fun V hV => ex_rowT 25 _ rfl (w.heap.size + 1) rfl 25 [.int .i64 a, .int .i64 b, .int .i64 c, .int .i64 d, .int .i64 x, .int .i64 y] _ Tryz.underlying25 rfl (by kernel_rfl) (hV.2.1)) hHeld ?_
 try simp only [zz]
 refine tk 8 28 (.agg #[.int .i64 rs, .int .i64 rf, .int .i64 rl, .int .i64 ra, .int .i64 rb]) rfl (by kernel_rfl) (fun _ _ _ h => h) (by kernel_rfl) (fun V hV => ex_rowT 64 _ rfl (w.heap.size) rfl 64 [.int .i64 rs, .int .i64 rf, .int .i64 rl, .int .i64 ra, .int .i64 rb] _ Tryz.underlying64 rfl (by kernel_rfl) (hV.1)) hHeld ?_
 try simp only [zz]
 refine tk 9 29 (.agg #[.int .i64 a, .int .i64 b, .int .i64 c, .int .i64 d, .int .i64 x, .int .i64 y]) rfl (by kernel_rfl) (fun _ _ _ h => h) (by kernel_rfl) (fun V hV => ex_rowT 25 _ rfl (w.heap.size + 1) rfl 25 [.int .i64 a, .int .i64 b, .int .i64 c, .int .i64 d, .int .i64 x, .int .i64 y] _ Tryz.underlying25 rfl (by kernel_rfl) (hV.2.1)) hHeld ?_
 try simp only [zz]
 refine tk 11 31 ?_ rfl (by kernel_rfl) (fun _ _ _ h => h) (by kernel_rfl) ?_ hHeld ?_
 rotate_left
 · intro w1 hSw; (try dsimp only at hSw); go_simp <;> with_reducible rfl
 try simp only [zz]
 refine tk 13 33 (.agg #[.int .i64 a, .int .i64 b, .int .i64 c, .int .i64 d, .int .i64 x, .int .i64 y]) rfl (by kernel_rfl) (fun _ _ _ h => h) (by kernel_rfl) (fun V hV => ex_rowT 25 _ rfl (w.heap.size + 1) rfl 25 [.int .i64 a, .int .i64 b, .int .i64 c, .int .i64 d, .int .i64 x, .int .i64 y] _ Tryz.underlying25 rfl (by kernel_rfl) (hV.2.1)) hHeld ?_
 try simp only [zz]
 refine st1 2 (by kernel_rfl) rfl (fun K hK => ?_)
 go_simp
 go_at_call 79
 refine (HD.out _).mono ?_
 rintro e v2 ⟨rfl, hb2⟩
 try go_simp
 refine hK.out _ _ ?_ (fun hHeld => ?_)
 · exact ⟨(hHeld.1).old hb2, (hHeld.2.1).old hb2, (hHeld.2.2.1).old hb2, (hHeld.2.2.2).trans ((hb2).mono (hHeld.2.2.2).size)⟩
 clear hK K
 try simp only [zz]
 refine tk 4 24 ?_ rfl (by kernel_rfl) (fun _ _ _ h => h) (by kernel_rfl) ?_ hHeld ?_
 rotate_left
 · intro w1 hSw; (try dsimp only at hSw); go_simp <;> with_reducible rfl
 try simp only [zz]
 refine st1 6 (by kernel_rfl) rfl (fun K hK => ?_)
 go_simp
 go_at_call 14
 refine (HQ.out _).mono ?_
 rintro e v6 ⟨rfl, hb6⟩
 try go_simp
 refine hK.out _ _ ?_ (fun hHeld => ?_)
 · exact ⟨(hHeld.1).old hb6, (hHeld.2.1).old hb6, (hHeld.2.2.1).old hb6, (hHeld.2.2.2).trans ((hb6).mono (hHeld.2.2.2).size)⟩
 clear hK K
 try simp only [zz]
 refine st1 7 (by kernel_rfl) rfl (fun K hK => ?_)
 go_simp
 go_at_call 101
 refine (HP.out _).mono ?_
 rintro e v7 ⟨rfl, hb7⟩
 try go_simp
 refine hK.out _ _ ?_ (fun hHeld => ?_)
 · exact ⟨(hHeld.1).old hb7, (hHeld.2.1).old hb7, (hHeld.2.2.1).old hb7, (hHeld.2.2.2).trans ((hb7).mono (hHeld.2.2.2).size)⟩
 clear hK K
 try simp only [zz]
 refine st1 10 (by kernel_rfl) rfl (fun K hK => ?_)
 go_simp
 go_at_call 79
 refine (HD.out _).mono ?_
 rintro e v10 ⟨rfl, hb10⟩
 try go_simp
 refine hK.out _ _ ?_ (fun hHeld => ?_)
 · exact ⟨(hHeld.1).old hb10, (hHeld.2.1).old hb10, (hHeld.2.2.1).old hb10, (hHeld.2.2.2).trans ((hb10).mono (hHeld.2.2.2).size)⟩
 clear hK K
 try simp only [zz]
 refine tk 12 32 ?_ rfl (by kernel_rfl) (fun _ _ _ h => h) (by kernel_rfl) ?_ hHeld ?_
 rotate_left
 · intro w1 hSw; (try dsimp only at hSw); go_simp <;> with_reducible rfl
 try simp only [zz]
 refine st1 14 (by kernel_rfl) rfl (fun K hK => ?_)
 go_simp
 go_at_call 14
 refine (HQ.out _).mono ?_
 rintro e v14 ⟨rfl, hb14⟩
 try go_simp
 refine hK.out _ _ ?_ (fun hHeld => ?_)
 · exact ⟨(hHeld.1).old hb14, (hHeld.2.1).old hb14, (hHeld.2.2.1).old hb14, (hHeld.2.2.2).trans ((hb14).mono (hHeld.2.2.2).size)⟩
 clear hK K
 try simp only [zz]
 refine st1 15 (by kernel_rfl) rfl (fun K hK => ?_)
 go_simp
 go_at_call 101
 refine (HP2.out _).mono ?_
 rintro e v15 ⟨rfl, hb15⟩
 try go_simp
 refine hK.out _ _ ?_ (fun hHeld => ?_)
 · exact ⟨(hHeld.1).old hb15, (hHeld.2.1).old hb15, (hHeld.2.2.1).old hb15, (hHeld.2.2.2).trans ((hb15).mono (hHeld.2.2.2).size)⟩
 clear hK K
 try simp only [zz]
 refine tk 16 36 ?_ rfl (by kernel_rfl) (fun _ _ _ h => h) (by kernel_rfl) ?_ hHeld ?_
 rotate_left
 · intro w1 hSw; (try dsimp only at hSw); go_simp <;> with_reducible rfl
 try simp only [zz]
 refine st1 17 (by kernel_rfl) rfl (fun K hK => ?_)
 obtain ⟨vs, hvl, hvr⟩ := (hHeld.2.2.1)
 have hLast := hHeld
 refine step_store_row rfl 62 _ _ rfl (w.heap.size + 1 + 1) [.int .i64 p, .int .i64 q] rfl rfl 62 vs hvr (by kernel_rfl) hvl (by simp [Value.oneCell']) ?_
 refine hK.out _ _ ?_ (fun hHeld => ?_)
 · exact ⟨(hHeld.1).farRow (by omega) _, (hHeld.2.1).farRow (by omega) _, ⟨_, rfl, hvr.setRow _⟩, Below.setRow (hHeld.2.2.2) (by omega) _⟩
 clear hK K
 try simp only [zz]
 refine wpAnyH_done (by kernel_rfl) ?_ _
 go_wp2_with fail
 refine bodyPost_ret (results_rowA rfl _ _ (w.heap.size + 1 + 1) 62 #[.int .i64 p, .int .i64 q] (0, 0) _ rfl (hvr.setRow [.int .i64 p, .int .i64 q]) Tryz.underlying62 rfl (by kernel_rfl)) rfl ⟨rfl, Below.setRow hLast.2.2.2 (by omega) _⟩
end Go.Proofs.YtcaekblnioidiaaGreatDoor
