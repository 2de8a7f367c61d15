import Derived.Test.YtaeebedchbkniaaGreatDoorM19
import Derived.Test.YtaeebedchbkniaaGreatDoorM43
namespace Go.Proofs.YtaeebedchbkniaaGreatDoor
set_option linter.all false
open Go.RowKit Go.Fl
set_option maxRecDepth 100000 in
set_option maxHeartbeats 1000000 in
theorem noisyT_ok (rs rf rl ra rb a b c d x y t E : Int) (w : World) (hE : E = firstI [recE rs rf rl ra rb, sigE a b c d x y, whenI (rangeB t 0 1000) 3]) (h0 : E = 0) (n Q by0 p q : Int) (bn : n.natAbs ≤ 1000000000) (bb : 0 ≤ by0 ∧ by0 ≤ 100000000) (hby : by0 = 2 * t * (max a (-a) + max b (-b))) (ht : 0 ≤ t ∧ t ≤ 1000) (ha : a.natAbs ≤ 10000) (hb : b.natAbs ≤ 10000) (HN : ∀ W, Calls Tryz.prog 80 #[.agg #[.int .i64 a, .int .i64 b, .int .i64 c, .int .i64 d, .int .i64 x, .int .i64 y]] W fun e w' => e = .returned (.agg #[.int .i64 n, .int .i64 Q]) ∧ Below W.heap.size W w') (HP : ∀ W, Calls Tryz.prog 114 #[.agg #[.int .i64 rs, .int .i64 rf, .int .i64 rl, .int .i64 ra, .int .i64 rb], .agg #[.int .i64 (n - by0), .int .i64 Q]] W fun e w' => e = .returned (.int .i64 p) ∧ Below W.heap.size W w') (HQ : ∀ W, Calls Tryz.prog 114 #[.agg #[.int .i64 rs, .int .i64 rf, .int .i64 rl, .int .i64 ra, .int .i64 rb], .agg #[.int .i64 (n + by0), .int .i64 Q]] W fun e w' => e = .returned (.int .i64 q) ∧ Below W.heap.size W w') : Calls Tryz.prog 47 #[.agg #[.int .i64 rs, .int .i64 rf, .int .i64 rl, .int .i64 ra, .int .i64 rb], .agg #[.int .i64 a, .int .i64 b, .int .i64 c, .int .i64 d, .int .i64 x, .int .i64 y], .int .i64 t] w fun e w' => e = .returned (.tuple #[.agg #[.int .i64 p, .int .i64 q], .int .i64 0]) ∧ Below w.heap.size w w' := by
 have HN := Lib.hid HN; have HP := Lib.hid HP; have HQ := Lib.hid HQ
 have HC1 : Hid (∀ W, Calls Tryz.prog 12 #[.agg #[.int .i64 rs, .int .i64 rf, .int .i64 rl, .int .i64 ra, .int .i64 rb]] W fun e w' => e = .returned (.int .i64 (recE rs rf rl ra rb)) ∧ Below W.heap.size W w') := fun W => checkReceiver_any rs rf rl ra rb W
 have HC2 : Hid (∀ W, Calls Tryz.prog 64 #[.agg #[.int .i64 a, .int .i64 b, .int .i64 c, .int .i64 d, .int .i64 x, .int .i64 y]] W fun e w' => e = .returned (.int .i64 (sigE a b c d x y)) ∧ Below W.heap.size W w') := fun W => checkSignal_any a b c d x y W
 have HC3 : Hid (∀ W, Calls Tryz.prog 62 #[.int .i64 t, .int .i64 0, .int .i64 1000] W fun e w' => e = .returned (.int .i64 (whenI (rangeB t 0 1000) 3)) ∧ W = w') := fun W => between_any t 0 1000 W
 obtain ⟨E1, hE1⟩ : ∃ E1, E1 = recE rs rf rl ra rb := ⟨_, rfl⟩
 obtain ⟨E2, hE2⟩ : ∃ E2, E2 = sigE a b c d x y := ⟨_, rfl⟩
 obtain ⟨E3, hE3⟩ : ∃ E3, E3 = whenI (rangeB t 0 1000) 3 := ⟨_, rfl⟩
 rw [← hE1] at HC1 hE
 rw [← hE2] at HC2 hE
 rw [← hE3] at HC3 hE
 have HE := Lib.hid hE
 have hne : (E == 0) = true := by simpa using h0
 have hne2 : (E != 0) = false := by simpa using h0
 clear hE hE1 hE2 hE3 h0
 obtain ⟨aa, haa⟩ : ∃ aa, aa = max a (-a) := ⟨_, rfl⟩
 obtain ⟨ab, hab⟩ : ∃ ab, ab = max b (-b) := ⟨_, rfl⟩
 rw [← haa, ← hab] at hby
 have ka : 0 ≤ aa ∧ aa ≤ 10000 := by omega
 have kb : 0 ≤ ab ∧ ab ≤ 10000 := by omega
 have HA : Hid (∀ W, Calls Tryz.prog 113 #[.int .i64 a] W fun e w' => e = .returned (.int .i64 aa) ∧ W = w') := fun W => (absolute_any a W (by unfold Bd; omega)).mono fun e w' h => ⟨by rw [h.1, haa], h.2.symm⟩
 have HAB : Hid (∀ W, Calls Tryz.prog 113 #[.int .i64 b] W fun e w' => e = .returned (.int .i64 ab) ∧ W = w') := fun W => (absolute_any b W (by unfold Bd; omega)).mono fun e w' h => ⟨by rw [h.1, hab], h.2.symm⟩
 have e1 : IntKind.i64.wrap (2 * t) = 2 * t := IntWalk.i64_in _ (by omega)
 have e2 : IntKind.i64.wrap (aa + ab) = aa + ab := IntWalk.i64_in _ (by omega)
 have e3 : IntKind.i64.wrap (2 * t * (aa + ab)) = by0 := by rw [← hby]; exact IntWalk.i64_in _ (by omega)
 have e4 : IntKind.i64.wrap (n - by0) = n - by0 := IntWalk.i64_in _ (by omega)
 have e5 : IntKind.i64.wrap (n + by0) = n + by0 := IntWalk.i64_in _ (by omega)
 clear bn bb hby ht ha hb haa hab ka kb
 go_enter Tryz.func47, Tryz.ntmps47
 go_upto_region 1 with fail
 refine genT (fun V => Row V (w.heap.size) 33 [.int .i64 rs, .int .i64 rf, .int .i64 rl, .int .i64 ra, .int .i64 rb] ∧ Row V (w.heap.size + 1) 39 [.int .i64 a, .int .i64 b, .int .i64 c, .int .i64 d, .int .i64 x, .int .i64 y] ∧ Row V (w.heap.size + 1 + 1) 23 [.int .i64 0, .int .i64 0] ∧ Below w.heap.size w V) ⟨(Row.alloc (Row.alloc (rowAt _ _ (by first | rfl | simp only [World.size_alloc])) _) _), (Row.alloc (rowAt _ _ (by first | rfl | simp only [World.size_alloc])) _), (rowAt _ _ (by first | rfl | simp only [World.size_alloc])), ((((Below.refl _ _).alloc (by first | exact Nat.le_refl _ | (simp only [World.size_alloc]; omega)) _).alloc (by first | exact Nat.le_refl _ | (simp only [World.size_alloc]; omega)) _).alloc (by first | exact Nat.le_refl _ | (simp only [World.size_alloc]; omega)) _)⟩ ?_
 intro W1 s1
 have HS1 : Hid (Row W1 (w.heap.size) 33 [.int .i64 rs, .int .i64 rf, .int .i64 rl, .int .i64 ra, .int .i64 rb] ∧ Row W1 (w.heap.size + 1) 39 [.int .i64 a, .int .i64 b, .int .i64 c, .int .i64 d, .int .i64 x, .int .i64 y] ∧ RowN W1 (w.heap.size + 1 + 1) 23 2 ∧ Below w.heap.size w W1) := ⟨s1.1, s1.2.1, ⟨_, rfl, s1.2.2.1⟩, s1.2.2.2⟩
 clear s1
 refine wp_region_held_drew (S := fun V => Row V (w.heap.size) 33 [.int .i64 rs, .int .i64 rf, .int .i64 rl, .int .i64 ra, .int .i64 rb] ∧ Row V (w.heap.size + 1) 39 [.int .i64 a, .int .i64 b, .int .i64 c, .int .i64 d, .int .i64 x, .int .i64 y] ∧ RowN V (w.heap.size + 1 + 1) 23 2 ∧ Below w.heap.size w V) (by kernel_rfl) ?_ (fun hHeld => ?_)
 · exact ⟨(HS1.out.1).drew, (HS1.out.2.1).drew, (HS1.out.2.2.1).drew, (HS1.out.2.2.2).drew⟩
 refine tk 0 11 (.agg #[.int .i64 rs, .int .i64 rf, .int .i64 rl, .int .i64 ra, .int .i64 rb]) rfl (by kernel_rfl) (fun _ _ _ h => h) (by kernel_rfl) (fun V hV => ex_rowT 33 _ rfl (w.heap.size) rfl 33 [.int .i64 rs, .int .i64 rf, .int .i64 rl, .int .i64 ra, .int .i64 rb] _ Tryz.underlying33 rfl (by kernel_rfl) (hV.1)) hHeld ?_
 try simp only [zz]
 refine tk 2 13 (.agg #[.int .i64 a, .int .i64 b, .int .i64 c, .int .i64 d, .int .i64 x, .int .i64 y]) rfl (by kernel_rfl) (fun _ _ _ h => h) (by kernel_rfl) (fun V hV => ex_rowT 39 _ rfl (w.heap.size + 1) rfl 39 [.int .i64 a, .int .i64 b, .int .i64 c, .int .i64 d, .int .i64 x, .int .i64 y] _ Tryz.underlying39 rfl (by kernel_rfl) (hV.2.1)) hHeld ?_
 try simp only [zz]
 refine tk 4 15 ?_ rfl (by kernel_rfl) (fun _ _ _ h => h) (by kernel_rfl) ?_ hHeld ?_
 rotate_left
 · intro w1 hSw; (try dsimp only at hSw); go_simp <;> with_reducible rfl
 try simp only [zz]
 refine st1 1 (by kernel_rfl) rfl (fun K hK => ?_)
 go_simp
 go_at_call 12
 refine (HC1.out _).mono ?_
 rintro e v1 ⟨rfl, hb1⟩
 try go_simp
 refine hK.out _ _ ?_ (fun hHeld => ?_)
 · exact ⟨(hHeld.1).old hb1, (hHeld.2.1).old hb1, (hHeld.2.2.1).old hb1, (hHeld.2.2.2).trans ((hb1).mono (hHeld.2.2.2).size)⟩
 clear hK K
 try simp only [zz]
 refine st1 3 (by kernel_rfl) rfl (fun K hK => ?_)
 go_simp
 go_at_call 64
 refine (HC2.out _).mono ?_
 rintro e v3 ⟨rfl, hb3⟩
 try go_simp
 refine hK.out _ _ ?_ (fun hHeld => ?_)
 · exact ⟨(hHeld.1).old hb3, (hHeld.2.1).old hb3, (hHeld.2.2.1).old hb3, (hHeld.2.2.2).trans ((hb3).mono (hHeld.2.2.2).size)⟩
 clear hK K
 try simp only [zz]
 refine st1 5 (by kernel_rfl) rfl (fun K hK => ?_)
 go_simp
 go_at_call 62
 refine (HC3.out _).mono ?_
 rintro e v5 ⟨rfl, rfl⟩
 try go_simp
 refine hK.out _ _ ?_ (fun hHeld => ?_)
 · exact hHeld
 clear hK K
 try simp only [zz]
 refine st1 6 (by kernel_rfl) rfl (fun K hK => ?_)
 go_simp
 refine hK.out _ _ ?_ (fun hHeld => ?_)
 · exact ⟨(hHeld.1).old ((Below.refl _ _).alloc (Nat.le_refl _) _), (hHeld.2.1).old ((Below.refl _ _).alloc (Nat.le_refl _) _), (hHeld.2.2.1).old ((Below.refl _ _).alloc (Nat.le_refl _) _), (hHeld.2.2.2).trans ((((Below.refl _ _).alloc (Nat.le_refl _) _)).mono (hHeld.2.2.2).size)⟩
 clear hK K
 try simp only [zz]
 refine st1 7 (by kernel_rfl) rfl (fun K hK => ?_)
 go_simp
 go_at_call 61
 refine (firstV_any _ _ _ [E1, E2, E3] _ ?_ rfl (by simp)).mono ?_
 · exact Rd.newT (t := 31)
 rintro e v13 ⟨rfl, rfl⟩
 try go_simp
 refine hK.out _ _ ?_ (fun hHeld => ?_)
 · exact hHeld
 clear hK K
 try simp only [zz]
 refine tk 8 8 ?_ rfl (by kernel_rfl) (fun _ _ _ h => h) (by kernel_rfl) ?_ hHeld ?_
 rotate_left
 · intro w1 hSw; (try dsimp only at hSw); go_simp <;> with_reducible rfl
 try simp only [zz]
 refine wpAnyH_done (by kernel_rfl) ?_ _
 rw [← HE.out]
 clear HC1 HC2 HC3 HE
 have HS4 := Lib.hid hHeld
 clear hHeld
 go_upto_region 5 with (first
  | (refine wpList_load_row rfl 33 _ rfl (w.heap.size) rfl 33 #[.int .i64 rs, .int .i64 rf, .int .i64 rl, .int .i64 ra, .int .i64 rb] (0, 0) _ HS4.out.1 Tryz.underlying33 rfl ?_ ?_; (kernel_rfl))
  | (refine wpList_load_row rfl 39 _ rfl (w.heap.size + 1) rfl 39 #[.int .i64 a, .int .i64 b, .int .i64 c, .int .i64 d, .int .i64 x, .int .i64 y] (0, 0) _ HS4.out.2.1 Tryz.underlying39 rfl ?_ ?_; (kernel_rfl))
  | (go_at_call 80; refine (HN.out _).mono ?_; rintro e v4 ⟨rfl, hb4⟩; have HS5 : Hid (Row v4 (w.heap.size) 33 [.int .i64 rs, .int .i64 rf, .int .i64 rl, .int .i64 ra, .int .i64 rb] ∧ Row v4 (w.heap.size + 1) 39 [.int .i64 a, .int .i64 b, .int .i64 c, .int .i64 d, .int .i64 x, .int .i64 y] ∧ RowN v4 (w.heap.size + 1 + 1) 23 2 ∧ Below w.heap.size w v4) := ⟨(HS4.out.1).old hb4, (HS4.out.2.1).old hb4, (HS4.out.2.2.1).old hb4, (HS4.out.2.2.2).trans (hb4.mono (HS4.out.2.2.2).size)⟩; clear hb4)
  | (refine wpList_store_row rfl 142 _ _ rfl (v4.heap.size) #[.int .i64 n, .int .i64 Q] rfl rfl 142 _ (Row.new v4 142 [.int .i64 0, .int .i64 0]) ?_ ?_ ?_ ?_; (kernel_rfl); (rfl); (simp [Value.oneCell'])))
 have hbn : Below v4.heap.size v4 ((v4.alloc (.cells #[.int .i64 0, .int .i64 0] 142)).setRow v4.heap.size #[.int .i64 n, .int .i64 Q]) := Below.setRow ((Below.refl _ _).alloc (Nat.le_refl _) _) (Nat.le_refl _) _
 have hz1 : w.heap.size + 1 + 1 < v4.heap.size := (by obtain ⟨vs, _, h⟩ := HS5.out.2.2.1; exact h.lt)
 refine genT (fun V => Row V (w.heap.size) 33 [.int .i64 rs, .int .i64 rf, .int .i64 rl, .int .i64 ra, .int .i64 rb] ∧ Row V (w.heap.size + 1) 39 [.int .i64 a, .int .i64 b, .int .i64 c, .int .i64 d, .int .i64 x, .int .i64 y] ∧ Row V (v4.heap.size) 142 [.int .i64 n, .int .i64 Q] ∧ RowN V (w.heap.size + 1 + 1) 23 2 ∧ Below w.heap.size w V) ⟨(HS5.out.1).old hbn, (HS5.out.2.1).old hbn, (Row.new v4 142 [.int .i64 0, .int .i64 0]).setRow _, (HS5.out.2.2.1).old hbn, (HS5.out.2.2.2).trans (hbn.mono (HS5.out.2.2.2).size)⟩ ?_
 clear hbn HS5 HS4 HN
 intro W6 s6
 have HS6 := Lib.hid s6
 clear s6
 refine wp_region_held_drew (S := fun V => Row V (w.heap.size) 33 [.int .i64 rs, .int .i64 rf, .int .i64 rl, .int .i64 ra, .int .i64 rb] ∧ Row V (w.heap.size + 1) 39 [.int .i64 a, .int .i64 b, .int .i64 c, .int .i64 d, .int .i64 x, .int .i64 y] ∧ Row V (v4.heap.size) 142 [.int .i64 n, .int .i64 Q] ∧ RowN V (w.heap.size + 1 + 1) 23 2 ∧ Below w.heap.size w V) (by kernel_rfl) ?_ (fun hHeld => ?_)
 · exact ⟨(HS6.out.1).drew, (HS6.out.2.1).drew, (HS6.out.2.2.1).drew, (HS6.out.2.2.2.1).drew, (HS6.out.2.2.2.2).drew⟩
 refine tk 0 25 ?_ rfl (by kernel_rfl) (fun _ _ _ h => h) (by kernel_rfl) ?_ hHeld ?_
 rotate_left
 · intro w1 hSw; (try dsimp only at hSw); go_simp <;> with_reducible rfl
 try simp only [zz]
 refine tk 1 26 ?_ rfl (by kernel_rfl) (fun _ _ _ h => h) (by kernel_rfl) ?_ hHeld ?_
 rotate_left
 · intro w1 hSw; (try dsimp only at hSw); go_simp <;> with_reducible rfl
 try simp only [zz]
 refine tk 2 27 ?_ rfl (by kernel_rfl) (fun _ _ _ h => h) (by kernel_rfl) ?_ hHeld ?_
 rotate_left
 · intro w1 hSw; (try dsimp only at hSw); go_simp <;> with_reducible rfl
 try simp only [zz]
 refine tk 3 28 ?_ rfl (by kernel_rfl) (fun _ _ _ h => h) (by kernel_rfl) ?_ hHeld ?_
 rotate_left
 · intro w1 hSw; (try dsimp only at hSw); go_simp <;> with_reducible rfl
 try simp only [zz]
 refine tk 4 29 ?_ rfl (by kernel_rfl) (fun _ _ _ h => h) (by kernel_rfl) ?_ hHeld ?_
 rotate_left
 · intro w1 hSw; (try dsimp only at hSw); have cc := (hSw.2.1).cell 0; simp only [List.getElem?_cons_succ, List.getElem?_cons_zero] at cc; go_simp <;> with_reducible rfl
 try simp only [zz]
 refine tk 6 31 ?_ rfl (by kernel_rfl) (fun _ _ _ h => h) (by kernel_rfl) ?_ hHeld ?_
 rotate_left
 · intro w1 hSw; (try dsimp only at hSw); go_simp <;> with_reducible rfl
 try simp only [zz]
 refine tk 7 32 ?_ rfl (by kernel_rfl) (fun _ _ _ h => h) (by kernel_rfl) ?_ hHeld ?_
 rotate_left
 · intro w1 hSw; (try dsimp only at hSw); go_simp <;> with_reducible rfl
 try simp only [zz]
 refine tk 8 33 ?_ rfl (by kernel_rfl) (fun _ _ _ h => h) (by kernel_rfl) ?_ hHeld ?_
 rotate_left
 · intro w1 hSw; (try dsimp only at hSw); have cc := (hSw.2.1).cell 1; simp only [List.getElem?_cons_succ, List.getElem?_cons_zero] at cc; go_simp <;> with_reducible rfl
 try simp only [zz]
 refine st1 5 (by kernel_rfl) rfl (fun K hK => ?_)
 go_simp
 go_at_call 113
 refine (HA.out _).mono ?_
 rintro e v5 ⟨rfl, rfl⟩
 try go_simp
 refine hK.out _ _ ?_ (fun hHeld => ?_)
 · exact hHeld
 clear hK K
 try simp only [zz]
 refine st1 9 (by kernel_rfl) rfl (fun K hK => ?_)
 go_simp
 go_at_call 113
 refine (HAB.out _).mono ?_
 rintro e v9 ⟨rfl, rfl⟩
 try go_simp
 refine hK.out _ _ ?_ (fun hHeld => ?_)
 · exact hHeld
 clear hK K
 try simp only [zz]
 refine tk 10 35 ?_ rfl (by kernel_rfl) (fun _ _ _ h => h) (by kernel_rfl) ?_ hHeld ?_
 rotate_left
 · intro w1 hSw; (try dsimp only at hSw); go_simp <;> with_reducible rfl
 try simp only [zz]
 refine tk 11 36 ?_ rfl (by kernel_rfl) (fun _ _ _ h => h) (by kernel_rfl) ?_ hHeld ?_
 rotate_left
 · intro w1 hSw; (try dsimp only at hSw); go_simp <;> with_reducible rfl
 try simp only [zz]
 refine tk 12 10 ?_ rfl (by kernel_rfl) (fun _ _ _ h => h) (by kernel_rfl) ?_ hHeld ?_
 rotate_left
 · intro w1 hSw; (try dsimp only at hSw); go_simp <;> with_reducible rfl
 try simp only [zz]
 refine wpAnyH_done (by kernel_rfl) ?_ _
 have HS7 := Lib.hid hHeld
 clear hHeld
 go_upto_region 6 with fail
 refine wp_region_held_drew (S := fun V => Row V (w.heap.size) 33 [.int .i64 rs, .int .i64 rf, .int .i64 rl, .int .i64 ra, .int .i64 rb] ∧ Row V (w.heap.size + 1) 39 [.int .i64 a, .int .i64 b, .int .i64 c, .int .i64 d, .int .i64 x, .int .i64 y] ∧ Row V (v4.heap.size) 142 [.int .i64 n, .int .i64 Q] ∧ RowN V (w.heap.size + 1 + 1) 23 2 ∧ Below w.heap.size w V) (by kernel_rfl) ?_ (fun hHeld => ?_)
 · exact ⟨(HS7.out.1).drew, (HS7.out.2.1).drew, (HS7.out.2.2.1).drew, (HS7.out.2.2.2.1).drew, (HS7.out.2.2.2.2).drew⟩
 refine tk 0 37 (.agg #[.int .i64 rs, .int .i64 rf, .int .i64 rl, .int .i64 ra, .int .i64 rb]) rfl (by kernel_rfl) (fun _ _ _ h => h) (by kernel_rfl) (fun V hV => ex_rowT 33 _ rfl (w.heap.size) rfl 33 [.int .i64 rs, .int .i64 rf, .int .i64 rl, .int .i64 ra, .int .i64 rb] _ Tryz.underlying33 rfl (by kernel_rfl) (hV.1)) hHeld ?_
 try simp only [zz]
 refine tk 1 38 ?_ rfl (by kernel_rfl) (fun _ _ _ h => h) (by kernel_rfl) ?_ hHeld ?_
 rotate_left
 · intro w1 hSw; (try dsimp only at hSw); go_simp <;> with_reducible rfl
 try simp only [zz]
 refine tk 2 39 ?_ rfl (by kernel_rfl) (fun _ _ _ h => h) (by kernel_rfl) ?_ hHeld ?_
 rotate_left
 · intro w1 hSw; (try dsimp only at hSw); have cc := (hSw.2.2.1).cell 0; simp only [List.getElem?_cons_succ, List.getElem?_cons_zero] at cc; go_simp <;> with_reducible rfl
 try simp only [zz]
 refine tk 3 40 ?_ rfl (by kernel_rfl) (fun _ _ _ h => h) (by kernel_rfl) ?_ hHeld ?_
 rotate_left
 · intro w1 hSw; (try dsimp only at hSw); go_simp <;> with_reducible rfl
 try simp only [zz]
 refine tk 4 41 ?_ rfl (by kernel_rfl) (fun _ _ _ h => h) (by kernel_rfl) ?_ hHeld ?_
 rotate_left
 · intro w1 hSw; (try dsimp only at hSw); go_simp <;> with_reducible rfl
 try simp only [zz]
 refine tk 5 42 ?_ rfl (by kernel_rfl) (fun _ _ _ h => h) (by kernel_rfl) ?_ hHeld ?_
 rotate_left
 · intro w1 hSw; (try dsimp only at hSw); go_simp <;> with_reducible rfl
 try simp only [zz]
 refine tk 6 43 ?_ rfl (by kernel_rfl) (fun _ _ _ h => h) (by kernel_rfl) ?_ hHeld ?_
 rotate_left
 · intro w1 hSw; (try dsimp only at hSw); have cc := (hSw.2.2.1).cell 1; simp only [List.getElem?_cons_succ, List.getElem?_cons_zero] at cc; go_simp <;> with_reducible rfl
 try simp only [zz]
 refine tk 7 44 ?_ rfl (by kernel_rfl) (fun _ _ _ h => h) (by kernel_rfl) ?_ hHeld ?_
 rotate_left
 · intro w1 hSw; (try dsimp only at hSw); go_simp <;> with_reducible rfl
 try simp only [zz]
 refine tk 9 46 (.agg #[.int .i64 rs, .int .i64 rf, .int .i64 rl, .int .i64 ra, .int .i64 rb]) rfl (by kernel_rfl) (fun _ _ _ h => h) (by kernel_rfl) (fun V hV => ex_rowT 33 _ rfl (w.heap.size) rfl 33 [.int .i64 rs, .int .i64 rf, .int .i64 rl, .int .i64 ra, .int .i64 rb] _ Tryz.underlying33 rfl (by kernel_rfl) (hV.1)) hHeld ?_
 try simp only [zz]
 refine tk 10 47 ?_ rfl (by kernel_rfl) (fun _ _ _ h => h) (by kernel_rfl) ?_ hHeld ?_
 rotate_left
 · intro w1 hSw; (try dsimp only at hSw); go_simp <;> with_reducible rfl
 try simp only [zz]
 refine tk 11 48 ?_ rfl (by kernel_rfl) (fun _ _ _ h => h) (by kernel_rfl) ?_ hHeld ?_
 rotate_left
 · intro w1 hSw; (try dsimp only at hSw); have cc := (hSw.2.2.1).cell 0; simp only [List.getElem?_cons_succ, List.getElem?_cons_zero] at cc; go_simp <;> with_reducible rfl
 try simp only [zz]
 refine tk 12 49 ?_ rfl (by kernel_rfl) (fun _ _ _ h => h) (by kernel_rfl) ?_ hHeld ?_
 rotate_left
 · intro w1 hSw; (try dsimp only at hSw); go_simp <;> with_reducible rfl
 try simp only [zz]
 refine tk 13 50 ?_ rfl (by kernel_rfl) (fun _ _ _ h => h) (by kernel_rfl) ?_ hHeld ?_
 rotate_left
 · intro w1 hSw; (try dsimp only at hSw); go_simp <;> with_reducible rfl
 try simp only [zz]
 refine tk 14 51 ?_ rfl (by kernel_rfl) (fun _ _ _ h => h) (by kernel_rfl) ?_ hHeld ?_
 rotate_left
 · intro w1 hSw; (try dsimp only at hSw); go_simp <;> with_reducible rfl
 try simp only [zz]
 refine tk 15 52 ?_ rfl (by kernel_rfl) (fun _ _ _ h => h) (by kernel_rfl) ?_ hHeld ?_
 rotate_left
 · intro w1 hSw; (try dsimp only at hSw); have cc := (hSw.2.2.1).cell 1; simp only [List.getElem?_cons_succ, List.getElem?_cons_zero] at cc; go_simp <;> with_reducible rfl
 try simp only [zz]
 refine tk 16 53 ?_ rfl (by kernel_rfl) (fun _ _ _ h => h) (by kernel_rfl) ?_ hHeld ?_
 rotate_left
 · intro w1 hSw; (try dsimp only at hSw); go_simp <;> with_reducible rfl
 try simp only [zz]
 refine st1 8 (by kernel_rfl) rfl (fun K hK => ?_)
 go_simp
 go_at_call 114
 refine (HP.out _).mono ?_
 rintro e v8 ⟨rfl, hb8⟩
 try go_simp
 refine hK.out _ _ ?_ (fun hHeld => ?_)
 · exact ⟨(hHeld.1).old hb8, (hHeld.2.1).old hb8, (hHeld.2.2.1).old hb8, (hHeld.2.2.2.1).old hb8, (hHeld.2.2.2.2).trans ((hb8).mono (hHeld.2.2.2.2).size)⟩
 clear hK K
 try simp only [zz]
 refine st1 17 (by kernel_rfl) rfl (fun K hK => ?_)
 go_simp
 go_at_call 114
 refine (HQ.out _).mono ?_
 rintro e v17 ⟨rfl, hb17⟩
 try go_simp
 refine hK.out _ _ ?_ (fun hHeld => ?_)
 · exact ⟨(hHeld.1).old hb17, (hHeld.2.1).old hb17, (hHeld.2.2.1).old hb17, (hHeld.2.2.2.1).old hb17, (hHeld.2.2.2.2).trans ((hb17).mono (hHeld.2.2.2.2).size)⟩
 clear hK K
 try simp only [zz]
 refine tk 18 55 ?_ rfl (by kernel_rfl) (fun _ _ _ h => h) (by kernel_rfl) ?_ hHeld ?_
 rotate_left
 · intro w1 hSw; (try dsimp only at hSw); go_simp <;> with_reducible rfl
 try simp only [zz]
 refine st1 19 (by kernel_rfl) rfl (fun K hK => ?_)
 obtain ⟨vs, hvl, hvr⟩ := (hHeld.2.2.2.1)
 have hLast := hHeld
 refine step_store_row rfl 23 _ _ rfl (w.heap.size + 1 + 1) [.int .i64 p, .int .i64 q] rfl rfl 23 vs hvr (by kernel_rfl) hvl (by simp [Value.oneCell']) ?_
 refine hK.out _ _ ?_ (fun hHeld => ?_)
 · exact ⟨(hHeld.1).farRow (by omega) _, (hHeld.2.1).farRow (by omega) _, (hHeld.2.2.1).farRow (by omega) _, ⟨_, rfl, hvr.setRow _⟩, Below.setRow (hHeld.2.2.2.2) (by omega) _⟩
 clear hK K
 try simp only [zz]
 refine tk 20 7 ?_ rfl (by kernel_rfl) (fun _ _ _ h => h) (by kernel_rfl) ?_ hHeld ?_
 rotate_left
 · intro w1 hSw; (try dsimp only at hSw); go_simp <;> with_reducible rfl
 try simp only [zz]
 refine wpAnyH_done (by kernel_rfl) ?_ _
 go_wp2_with fail
 refine bodyPost_ret (results_rt rfl _ _ (w.heap.size + 1 + 1) 23 #[.int .i64 p, .int .i64 q] (0, 0) _ rfl (hvr.setRow [.int .i64 p, .int .i64 q]) Tryz.underlying23 rfl (by kernel_rfl)) rfl ⟨rfl, Below.setRow hLast.2.2.2.2 (by omega) _⟩
theorem eqG9 (a b c d : Int) (w : World) : (Op.equalIn 9999 37 (.agg #[.int .i64 a, .int .i64 b]) (.agg #[.int .i64 c, .int .i64 d])).run Tryz.prog w = .ok (a == c && b == d) w := by
 have i3 := Tryz.underlying3
 have e1 : ∀ (a b : Int), (part 3 #[.int .i64 a, .int .i64 b] 0).run Tryz.prog w = .ok (.int .i64 a) w := fun a b => part_int _ _ _ rfl w
 have e2 : ∀ (a b : Int), (part 3 #[.int .i64 a, .int .i64 b] 1).run Tryz.prog w = .ok (.int .i64 b) w := fun a b => part_int _ _ _ rfl w
 have e4 := fun (a b : Int) => run_equalIn_int (P := Tryz.prog) w 9997 3 .i64 .i64 a b i3
 have n1 : ("Re" : String) ≠ "_" := by decide
 have n2 : ("Im" : String) ≠ "_" := by decide
 rw [run_eqStruct w 9998 _ _ _ _ (by kernel_rfl) (by kernel_rfl) fieldsG]
 simp only [eqTriples, if_pos n1, if_pos n2, Sem.run_bind, e1, e2, e4, Result.andThen_ok, Sem.run_ite, Sem.run_pure]
 cases a == c <;> cases b == d <;> simp [e1, e2, e4]
theorem fieldsRT : ((Tryz.prog.fieldsOf 79).toList.map fun f => (f.name, f.type, f.offset)) = [("Num", 3, 0), ("Den", 3, 1)] := by kernel_rfl
theorem eqlRatioT (a b c d : Int) (w : World) : (binOp .eql 79 (.agg #[.int .i64 a, .int .i64 b]) (.agg #[.int .i64 c, .int .i64 d])).run Tryz.prog w = .ok (.bool (a == c && b == d)) w := by
 have i3 := Tryz.underlying3
 have e1 : ∀ (a b : Int), (part 3 #[.int .i64 a, .int .i64 b] 0).run Tryz.prog w = .ok (.int .i64 a) w := fun a b => part_int _ _ _ rfl w
 have e2 : ∀ (a b : Int), (part 3 #[.int .i64 a, .int .i64 b] 1).run Tryz.prog w = .ok (.int .i64 b) w := fun a b => part_int _ _ _ rfl w
 have e4 := fun (a b : Int) => run_equalIn_int (P := Tryz.prog) w 9998 3 .i64 .i64 a b i3
 have n1 : ("Num" : String) ≠ "_" := by decide
 have n2 : ("Den" : String) ≠ "_" := by decide
 rw [run_eql_struct, run_eqStruct w 9999 _ _ _ _ (by kernel_rfl) (by kernel_rfl) fieldsRT]
 simp only [eqTriples, if_pos n1, if_pos n2, Sem.run_bind, e1, e2, e4, Result.andThen_ok, Sem.run_ite, Sem.run_pure]
 cases a == c <;> cases b == d <;> simp [e1, e2, e4]
theorem eqR_self (p q : Int) (w : World) : (binOp .eql 79 (.agg #[.int .i64 p, .int .i64 q]) (.agg #[.int .i64 p, .int .i64 q])).run Tryz.prog w = .ok (.bool true) w := by
 rw [eqlRatioT]; simp
def DeS (Aw : World → Prop) (w : World) (L6 : List Value) (W : World) : Prop := Row W w.heap.size 40 L6 ∧ Aw W ∧ Below w.heap.size w W
theorem DeS.keep {Aw : World → Prop} (ho : ∀ W W', Aw W → Below W.heap.size W W' → Aw W') {w W W' : World} {L6 : List Value} (h : DeS Aw w L6 W) (hb : Below W.heap.size W W') : DeS Aw w L6 W' := ⟨h.1.old hb, ho _ _ h.2.1 hb, h.2.2.trans (hb.mono h.2.2.size)⟩
def inB (m p : Int) : Bool := !(decide (p < -m)) && !(decide (m < p))
def nearB (m a b c d x y : Int) : Bool := decide (sigE a b c d x y = 0) && (inB m a && inB m b) && (inB m c && inB m d) && (inB m x && inB m y)
set_option maxRecDepth 100000 in
set_option maxHeartbeats 1000000 in
theorem right_any (a b : Int) (w : World) : Calls Tryz.prog 39 #[.agg #[.int .i64 a, .int .i64 b]] w fun e w' => e = .returned (.bool (checkRatioI a b == 0)) ∧ Below w.heap.size w w' := by
 obtain ⟨E, hE⟩ : ∃ E, E = checkRatioI a b := ⟨_, rfl⟩
 have HC : Hid (∀ W, Calls Tryz.prog 102 #[.agg #[.int .i64 a, .int .i64 b]] W fun e w' => e = .returned (.int .i64 E) ∧ Below W.heap.size W w') := fun W => by rw [hE]; exact checkRatioR_any a b W
 rw [← hE]
 clear hE
 go_enter Tryz.func39, Tryz.ntmps39
 go_upto_region 1 with fail
 refine genT (fun V => Row V (w.heap.size) 79 [.int .i64 a, .int .i64 b] ∧ Below w.heap.size w V) ⟨(rowAt _ _ (by first | rfl | simp only [World.size_alloc])), ((Below.refl _ _).alloc (by first | exact Nat.le_refl _ | (simp only [World.size_alloc]; omega)) _)⟩ ?_
 intro W1 s1
 have HS1 := Lib.hid s1
 clear s1
 go_wp2_with (first | (refine wpList_load_row rfl 79 _ rfl (w.heap.size) rfl 79 #[.int .i64 a, .int .i64 b] (0, 0) _ HS1.out.1 Tryz.underlying79 rfl ?_ ?_; (kernel_rfl)) | (go_at_call 102; refine (HC.out _).mono ?_; rintro e w2 ⟨rfl, hb_w2⟩; have HS2 : Hid (Row w2 (w.heap.size) 79 [.int .i64 a, .int .i64 b] ∧ Below w.heap.size w w2) := ⟨(HS1.out.1).old hb_w2, (HS1.out.2).trans (hb_w2.mono (HS1.out.2).size)⟩; clear hb_w2))
 go_ret
 exact ⟨rfl, HS2.out.2⟩
set_option maxRecDepth 100000 in
set_option maxHeartbeats 4000000 in
theorem near_any (a b c d x y m : Int) (w : World) (hm : 0 ≤ m ∧ m ≤ 1000000) : Calls Tryz.prog 34 #[.agg #[.int .i64 a, .int .i64 b, .int .i64 c, .int .i64 d, .int .i64 x, .int .i64 y], .int .i64 m] w fun e w' => e = .returned (.bool (nearB m a b c d x y)) ∧ Below w.heap.size w w' := by
 obtain ⟨E, hE⟩ : ∃ E, E = sigE a b c d x y := ⟨_, rfl⟩
 have HC : Hid (∀ W, Calls Tryz.prog 15 #[.agg #[.int .i64 a, .int .i64 b, .int .i64 c, .int .i64 d, .int .i64 x, .int .i64 y]] W fun e w' => e = .returned (.int .i64 E) ∧ Below W.heap.size W w') := fun W => by rw [hE]; exact checkSignalR_any a b c d x y W
 have e1 : IntKind.i64.wrap (-m) = -m := IntWalk.i64_in _ (by omega)
 have hN : nearB m a b c d x y = (decide (E = 0) && (inB m a && inB m b) && (inB m c && inB m d) && (inB m x && inB m y)) := by unfold nearB; rw [← hE]
 rw [hN]
 clear hE hN hm
 by_cases h0 : E = 0
 · subst h0
   go_enter Tryz.func34, Tryz.ntmps34
   go_upto_region 1 with fail
   refine genT (fun V => Row V (w.heap.size) 40 [.int .i64 a, .int .i64 b, .int .i64 c, .int .i64 d, .int .i64 x, .int .i64 y] ∧ Below w.heap.size w V) ⟨(rowAt _ _ (by first | rfl | simp only [World.size_alloc])), ((Below.refl _ _).alloc (by first | exact Nat.le_refl _ | (simp only [World.size_alloc]; omega)) _)⟩ ?_
   intro W1 s1
   have HS1 := Lib.hid s1
   clear s1
   have c0 := HS1.out.1.cell 0; have c1 := HS1.out.1.cell 1; have c2 := HS1.out.1.cell 2; have c3 := HS1.out.1.cell 3; have c4 := HS1.out.1.cell 4; have c5 := HS1.out.1.cell 5
   go_upto_region 3 with (first | (refine wpList_load_row rfl 40 _ rfl (w.heap.size) rfl 40 #[.int .i64 a, .int .i64 b, .int .i64 c, .int .i64 d, .int .i64 x, .int .i64 y] (0, 0) _ HS1.out.1 Tryz.underlying40 rfl ?_ ?_; (kernel_rfl)) | (go_at_call 15; refine (HC.out _).mono ?_; rintro e w2 ⟨rfl, hb_w2⟩; have HS2 : Hid (Row w2 (w.heap.size) 40 [.int .i64 a, .int .i64 b, .int .i64 c, .int .i64 d, .int .i64 x, .int .i64 y] ∧ Below w.heap.size w w2) := ⟨(HS1.out.1).old hb_w2, (HS1.out.2).trans (hb_w2.mono (HS1.out.2).size)⟩; clear hb_w2))
   clear c0 c1 c2 c3 c4 c5
   have c0 := HS2.out.1.cell 0; have c1 := HS2.out.1.cell 1; have c2 := HS2.out.1.cell 2; have c3 := HS2.out.1.cell 3; have c4 := HS2.out.1.cell 4; have c5 := HS2.out.1.cell 5
   simp only [List.getElem?_cons_succ, List.getElem?_cons_zero] at c0 c1 c2 c3 c4 c5
   go_upto_region 4 with fail
   obtain ⟨gs, hgs⟩ : ∃ gs, gs = w2.heap.size := ⟨_, rfl⟩
   have hlt : w.heap.size < gs := by rw [hgs]; exact HS2.out.1.lt
   refine genT (fun V => Row V w.heap.size 40 [.int .i64 a, .int .i64 b, .int .i64 c, .int .i64 d, .int .i64 x, .int .i64 y] ∧ Row V gs 37 [.int .i64 a, .int .i64 b, .int .i64 c, .int .i64 d, .int .i64 x, .int .i64 y] ∧ Below w.heap.size w V) ⟨HS2.out.1.alloc _, rowAt _ _ hgs.symm, HS2.out.2.alloc HS2.out.2.size _⟩ ?_
   rw [← hgs]
   clear c0 c1 c2 c3 c4 c5 HS1 hgs HC
   intro W3 s3
   have HS := Lib.hid s3
   clear s3 HS2
   go_loopg [18] 3 (fun gg s18 wx => (gg = 3 ∧ s18 = .int .i64 0 ∧ Hid (Row wx w.heap.size 40 [.int .i64 a, .int .i64 b, .int .i64 c, .int .i64 d, .int .i64 x, .int .i64 y] ∧ Row wx gs 37 [.int .i64 a, .int .i64 b, .int .i64 c, .int .i64 d, .int .i64 x, .int .i64 y] ∧ Below w.heap.size w wx)) ∨ (gg = 2 ∧ s18 = .int .i64 1 ∧ (inB m a && inB m b) = true ∧ Hid (Row wx w.heap.size 40 [.int .i64 a, .int .i64 b, .int .i64 c, .int .i64 d, .int .i64 x, .int .i64 y] ∧ Row wx gs 37 [.int .i64 a, .int .i64 b, .int .i64 c, .int .i64 d, .int .i64 x, .int .i64 y] ∧ Below w.heap.size w wx)) ∨ (gg = 1 ∧ s18 = .int .i64 2 ∧ (inB m a && inB m b) = true ∧ (inB m c && inB m d) = true ∧ Hid (Row wx w.heap.size 40 [.int .i64 a, .int .i64 b, .int .i64 c, .int .i64 d, .int .i64 x, .int .i64 y] ∧ Row wx gs 37 [.int .i64 a, .int .i64 b, .int .i64 c, .int .i64 d, .int .i64 x, .int .i64 y] ∧ Below w.heap.size w wx)) ∨ (gg = 0 ∧ s18 = .int .i64 3 ∧ (inB m a && inB m b) = true ∧ (inB m c && inB m d) = true ∧ (inB m x && inB m y) = true ∧ Hid (Row wx w.heap.size 40 [.int .i64 a, .int .i64 b, .int .i64 c, .int .i64 d, .int .i64 x, .int .i64 y] ∧ Row wx gs 37 [.int .i64 a, .int .i64 b, .int .i64 c, .int .i64 d, .int .i64 x, .int .i64 y] ∧ Below w.heap.size w wx)))
   case atStart => exact .inl ⟨rfl, rfl, HS⟩
   case round =>
    clear HS
    obtain ⟨rfl, rfl, HS⟩ | ⟨rfl, rfl, q0, HS⟩ | ⟨rfl, rfl, q0, q1, HS⟩ | ⟨rfl, rfl, q0, q1, q2, HS⟩ := hrel
    · have d0 := HS.out.2.1.cell 0; have d1 := HS.out.2.1.cell 1
      simp only [List.getElem?_cons_succ, List.getElem?_cons_zero] at d0 d1
      have hg2 : gs < wr.heap.size := HS.out.2.1.lt
      have hbn : Below wr.heap.size wr ((wr.alloc (.cells #[.int .i64 0, .int .i64 0] 37)).setRow wr.heap.size #[.int .i64 a, .int .i64 b]) := Below.setRow ((Below.refl _ _).alloc (Nat.le_refl _) _) (Nat.le_refl _) _
      go_upto_region 6 with (refine wpList_store_row rfl 37 _ _ rfl (wr.heap.size) #[.int .i64 a, .int .i64 b] rfl rfl 37 _ (Row.new wr 37 [.int .i64 0, .int .i64 0]) ?_ ?_ ?_ ?_; (kernel_rfl); (rfl); (simp [Value.oneCell']))
      refine genT (fun V => Row V wr.heap.size 37 [.int .i64 a, .int .i64 b] ∧ Row V w.heap.size 40 [.int .i64 a, .int .i64 b, .int .i64 c, .int .i64 d, .int .i64 x, .int .i64 y] ∧ Row V gs 37 [.int .i64 a, .int .i64 b, .int .i64 c, .int .i64 d, .int .i64 x, .int .i64 y] ∧ Below w.heap.size w V) ⟨(Row.new wr 37 [.int .i64 0, .int .i64 0]).setRow _, HS.out.1.old hbn, HS.out.2.1.old hbn, HS.out.2.2.trans (hbn.mono HS.out.2.2.size)⟩ ?_
      clear d0 d1 hbn
      intro W6 s6
      have HK := Lib.hid s6.2
      have d0 := s6.1.cell 0; have d1 := s6.1.cell 1
      simp only [List.getElem?_cons_succ, List.getElem?_cons_zero] at d0 d1
      have HF := Lib.hid HK.out.2.2
      clear s6 HS
      by_cases g1 : a < -m
      · have fa : decide (a < -m) = true := decide_eq_true g1
        clear HK g1
        have hbad : inB m a = false := by unfold inB; simp only [fa]; rfl
        have HZ : Hid (((inB m a && inB m b) && (inB m c && inB m d) && (inB m x && inB m y)) = false) := Lib.hid (by simp [hbad])
        clear hbad
        go_wp2_with fail
        go_ret
        exact ⟨by have h := HZ.out; first | (rw [h]; rfl) | simp [h], HF.out⟩
      · have f1 : decide (a < -m) = false := decide_eq_false g1
        by_cases g2 : m < a
        · have fa : decide (m < a) = true := decide_eq_true g2
          clear HK g1 g2
          have hbad : inB m a = false := by unfold inB; simp only [f1, fa]; rfl
          have HZ : Hid (((inB m a && inB m b) && (inB m c && inB m d) && (inB m x && inB m y)) = false) := Lib.hid (by simp [hbad])
          clear hbad
          go_wp2_with fail
          go_ret
          exact ⟨by have h := HZ.out; first | (rw [h]; rfl) | simp [h], HF.out⟩
        · have f2 : decide (m < a) = false := decide_eq_false g2
          by_cases g3 : b < -m
          · have fb : decide (b < -m) = true := decide_eq_true g3
            clear HK g1 g2 g3
            have hbad : inB m b = false := by unfold inB; simp only [fb]; rfl
            have HZ : Hid (((inB m a && inB m b) && (inB m c && inB m d) && (inB m x && inB m y)) = false) := Lib.hid (by simp [hbad])
            clear hbad
            go_wp2_with fail
            go_ret
            exact ⟨by have h := HZ.out; first | (rw [h]; rfl) | simp [h], HF.out⟩
          · have f3 : decide (b < -m) = false := decide_eq_false g3
            by_cases g4 : m < b
            · have fb : decide (m < b) = true := decide_eq_true g4
              clear HK g1 g2 g3 g4
              have hbad : inB m b = false := by unfold inB; simp only [f3, fb]; rfl
              have HZ : Hid (((inB m a && inB m b) && (inB m c && inB m d) && (inB m x && inB m y)) = false) := Lib.hid (by simp [hbad])
              clear hbad
              go_wp2_with fail
              go_ret
              exact ⟨by have h := HZ.out; first | (rw [h]; rfl) | simp [h], HF.out⟩
            · have f4 : decide (m < b) = false := decide_eq_false g4
              have hq : (inB m a && inB m b) = true := by unfold inB; simp only [f1, f2, f3, f4]; rfl
              clear g1 g2 g3 g4 HF
              have HQN := Lib.hid hq
              clear hq
              go_wp2_with fail
              go_roundg 2
              case measure => omega
              case rel => exact .inr (.inl ⟨rfl, rfl, HQN.out, HK⟩)
    · have d0 := HS.out.2.1.cell 2; have d1 := HS.out.2.1.cell 3
      simp only [List.getElem?_cons_succ, List.getElem?_cons_zero] at d0 d1
      have hg2 : gs < wr.heap.size := HS.out.2.1.lt
      have hbn : Below wr.heap.size wr ((wr.alloc (.cells #[.int .i64 0, .int .i64 0] 37)).setRow wr.heap.size #[.int .i64 c, .int .i64 d]) := Below.setRow ((Below.refl _ _).alloc (Nat.le_refl _) _) (Nat.le_refl _) _
      have HQ0 := Lib.hid q0
      clear q0
      go_upto_region 6 with (refine wpList_store_row rfl 37 _ _ rfl (wr.heap.size) #[.int .i64 c, .int .i64 d] rfl rfl 37 _ (Row.new wr 37 [.int .i64 0, .int .i64 0]) ?_ ?_ ?_ ?_; (kernel_rfl); (rfl); (simp [Value.oneCell']))
      refine genT (fun V => Row V wr.heap.size 37 [.int .i64 c, .int .i64 d] ∧ Row V w.heap.size 40 [.int .i64 a, .int .i64 b, .int .i64 c, .int .i64 d, .int .i64 x, .int .i64 y] ∧ Row V gs 37 [.int .i64 a, .int .i64 b, .int .i64 c, .int .i64 d, .int .i64 x, .int .i64 y] ∧ Below w.heap.size w V) ⟨(Row.new wr 37 [.int .i64 0, .int .i64 0]).setRow _, HS.out.1.old hbn, HS.out.2.1.old hbn, HS.out.2.2.trans (hbn.mono HS.out.2.2.size)⟩ ?_
      clear d0 d1 hbn
      intro W6 s6
      have HK := Lib.hid s6.2
      have d0 := s6.1.cell 0; have d1 := s6.1.cell 1
      simp only [List.getElem?_cons_succ, List.getElem?_cons_zero] at d0 d1
      have HF := Lib.hid HK.out.2.2
      clear s6 HS
      by_cases g1 : c < -m
      · have fc : decide (c < -m) = true := decide_eq_true g1
        clear HK g1
        have hbad : inB m c = false := by unfold inB; simp only [fc]; rfl
        have HZ : Hid (((inB m a && inB m b) && (inB m c && inB m d) && (inB m x && inB m y)) = false) := Lib.hid (by simp [hbad])
        clear hbad
        go_wp2_with fail
        go_ret
        exact ⟨by have h := HZ.out; first | (rw [h]; rfl) | simp [h], HF.out⟩
      · have f1 : decide (c < -m) = false := decide_eq_false g1
        by_cases g2 : m < c
        · have fc : decide (m < c) = true := decide_eq_true g2
          clear HK g1 g2
          have hbad : inB m c = false := by unfold inB; simp only [f1, fc]; rfl
          have HZ : Hid (((inB m a && inB m b) && (inB m c && inB m d) && (inB m x && inB m y)) = false) := Lib.hid (by simp [hbad])
          clear hbad
          go_wp2_with fail
          go_ret
          exact ⟨by have h := HZ.out; first | (rw [h]; rfl) | simp [h], HF.out⟩
        · have f2 : decide (m < c) = false := decide_eq_false g2
          by_cases g3 : d < -m
          · have fd : decide (d < -m) = true := decide_eq_true g3
            clear HK g1 g2 g3
            have hbad : inB m d = false := by unfold inB; simp only [fd]; rfl
            have HZ : Hid (((inB m a && inB m b) && (inB m c && inB m d) && (inB m x && inB m y)) = false) := Lib.hid (by simp [hbad])
            clear hbad
            go_wp2_with fail
            go_ret
            exact ⟨by have h := HZ.out; first | (rw [h]; rfl) | simp [h], HF.out⟩
          · have f3 : decide (d < -m) = false := decide_eq_false g3
            by_cases g4 : m < d
            · have fd : decide (m < d) = true := decide_eq_true g4
              clear HK g1 g2 g3 g4
              have hbad : inB m d = false := by unfold inB; simp only [f3, fd]; rfl
              have HZ : Hid (((inB m a && inB m b) && (inB m c && inB m d) && (inB m x && inB m y)) = false) := Lib.hid (by simp [hbad])
              clear hbad
              go_wp2_with fail
              go_ret
              exact ⟨by have h := HZ.out; first | (rw [h]; rfl) | simp [h], HF.out⟩
            · have f4 : decide (m < d) = false := decide_eq_false g4
              have hq : (inB m c && inB m d) = true := by unfold inB; simp only [f1, f2, f3, f4]; rfl
              clear g1 g2 g3 g4 HF
              have HQN := Lib.hid hq
              clear hq
              go_wp2_with fail
              go_roundg 1
              case measure => omega
              case rel => exact .inr (.inr (.inl ⟨rfl, rfl, HQ0.out, HQN.out, HK⟩))
    · have d0 := HS.out.2.1.cell 4; have d1 := HS.out.2.1.cell 5
      simp only [List.getElem?_cons_succ, List.getElem?_cons_zero] at d0 d1
      have hg2 : gs < wr.heap.size := HS.out.2.1.lt
      have hbn : Below wr.heap.size wr ((wr.alloc (.cells #[.int .i64 0, .int .i64 0] 37)).setRow wr.heap.size #[.int .i64 x, .int .i64 y]) := Below.setRow ((Below.refl _ _).alloc (Nat.le_refl _) _) (Nat.le_refl _) _
      have HQ0 := Lib.hid q0
      have HQ1 := Lib.hid q1
      clear q0 q1
      go_upto_region 6 with (refine wpList_store_row rfl 37 _ _ rfl (wr.heap.size) #[.int .i64 x, .int .i64 y] rfl rfl 37 _ (Row.new wr 37 [.int .i64 0, .int .i64 0]) ?_ ?_ ?_ ?_; (kernel_rfl); (rfl); (simp [Value.oneCell']))
      refine genT (fun V => Row V wr.heap.size 37 [.int .i64 x, .int .i64 y] ∧ Row V w.heap.size 40 [.int .i64 a, .int .i64 b, .int .i64 c, .int .i64 d, .int .i64 x, .int .i64 y] ∧ Row V gs 37 [.int .i64 a, .int .i64 b, .int .i64 c, .int .i64 d, .int .i64 x, .int .i64 y] ∧ Below w.heap.size w V) ⟨(Row.new wr 37 [.int .i64 0, .int .i64 0]).setRow _, HS.out.1.old hbn, HS.out.2.1.old hbn, HS.out.2.2.trans (hbn.mono HS.out.2.2.size)⟩ ?_
      clear d0 d1 hbn
      intro W6 s6
      have HK := Lib.hid s6.2
      have d0 := s6.1.cell 0; have d1 := s6.1.cell 1
      simp only [List.getElem?_cons_succ, List.getElem?_cons_zero] at d0 d1
      have HF := Lib.hid HK.out.2.2
      clear s6 HS
      by_cases g1 : x < -m
      · have fx : decide (x < -m) = true := decide_eq_true g1
        clear HK g1
        have hbad : inB m x = false := by unfold inB; simp only [fx]; rfl
        have HZ : Hid (((inB m a && inB m b) && (inB m c && inB m d) && (inB m x && inB m y)) = false) := Lib.hid (by simp [hbad])
        clear hbad
        go_wp2_with fail
        go_ret
        exact ⟨by have h := HZ.out; first | (rw [h]; rfl) | simp [h], HF.out⟩
      · have f1 : decide (x < -m) = false := decide_eq_false g1
        by_cases g2 : m < x
        · have fx : decide (m < x) = true := decide_eq_true g2
          clear HK g1 g2
          have hbad : inB m x = false := by unfold inB; simp only [f1, fx]; rfl
          have HZ : Hid (((inB m a && inB m b) && (inB m c && inB m d) && (inB m x && inB m y)) = false) := Lib.hid (by simp [hbad])
          clear hbad
          go_wp2_with fail
          go_ret
          exact ⟨by have h := HZ.out; first | (rw [h]; rfl) | simp [h], HF.out⟩
        · have f2 : decide (m < x) = false := decide_eq_false g2
          by_cases g3 : y < -m
          · have fy : decide (y < -m) = true := decide_eq_true g3
            clear HK g1 g2 g3
            have hbad : inB m y = false := by unfold inB; simp only [fy]; rfl
            have HZ : Hid (((inB m a && inB m b) && (inB m c && inB m d) && (inB m x && inB m y)) = false) := Lib.hid (by simp [hbad])
            clear hbad
            go_wp2_with fail
            go_ret
            exact ⟨by have h := HZ.out; first | (rw [h]; rfl) | simp [h], HF.out⟩
          · have f3 : decide (y < -m) = false := decide_eq_false g3
            by_cases g4 : m < y
            · have fy : decide (m < y) = true := decide_eq_true g4
              clear HK g1 g2 g3 g4
              have hbad : inB m y = false := by unfold inB; simp only [f3, fy]; rfl
              have HZ : Hid (((inB m a && inB m b) && (inB m c && inB m d) && (inB m x && inB m y)) = false) := Lib.hid (by simp [hbad])
              clear hbad
              go_wp2_with fail
              go_ret
              exact ⟨by have h := HZ.out; first | (rw [h]; rfl) | simp [h], HF.out⟩
            · have f4 : decide (m < y) = false := decide_eq_false g4
              have hq : (inB m x && inB m y) = true := by unfold inB; simp only [f1, f2, f3, f4]; rfl
              clear g1 g2 g3 g4 HF
              have HQN := Lib.hid hq
              clear hq
              go_wp2_with fail
              go_roundg 0
              case measure => omega
              case rel => exact .inr (.inr (.inr ⟨rfl, rfl, HQ0.out, HQ1.out, HQN.out, HK⟩))
    · have HF := Lib.hid HS.out.2.2
      have HQ := Lib.hid (And.intro q0 (And.intro q1 q2))
      clear HS q0 q1 q2
      go_wp2_with fail
      go_ret
      exact ⟨by have h0 := HQ.out.1; have h1 := HQ.out.2.1; have h2 := HQ.out.2.2; first | (rw [h0, h1, h2]; rfl) | simp [h0, h1, h2], HF.out⟩
 · have hne : (E != 0) = true := by simpa using h0
   have hz : decide (E = 0) = false := decide_eq_false h0
   rw [hz]
   clear hz h0
   go_enter Tryz.func34, Tryz.ntmps34
   go_upto_region 1 with fail
   refine genT (fun V => Row V (w.heap.size) 40 [.int .i64 a, .int .i64 b, .int .i64 c, .int .i64 d, .int .i64 x, .int .i64 y] ∧ Below w.heap.size w V) ⟨(rowAt _ _ (by first | rfl | simp only [World.size_alloc])), ((Below.refl _ _).alloc (by first | exact Nat.le_refl _ | (simp only [World.size_alloc]; omega)) _)⟩ ?_
   intro W1 s1
   have HS1 := Lib.hid s1
   clear s1
   go_wp2_with (first | (refine wpList_load_row rfl 40 _ rfl (w.heap.size) rfl 40 #[.int .i64 a, .int .i64 b, .int .i64 c, .int .i64 d, .int .i64 x, .int .i64 y] (0, 0) _ HS1.out.1 Tryz.underlying40 rfl ?_ ?_; (kernel_rfl)) | (go_at_call 15; refine (HC.out _).mono ?_; rintro e w2 ⟨rfl, hb_w2⟩; have HS2 : Hid (Row w2 (w.heap.size) 40 [.int .i64 a, .int .i64 b, .int .i64 c, .int .i64 d, .int .i64 x, .int .i64 y] ∧ Below w.heap.size w w2) := ⟨(HS1.out.1).old hb_w2, (HS1.out.2).trans (hb_w2.mono (HS1.out.2).size)⟩; clear hb_w2))
   go_ret
   exact ⟨rfl, HS2.out.2⟩
def lowN (n d : Int) : Int := n.tdiv (gcdI n d)
def lowD (n d : Int) : Int := d / gcdI n d
theorem gcdI_pos {n d : Int} (hd : 0 < d) : 0 < gcdI n d := by
 unfold gcdI
 have := Int.gcd_pos_of_ne_zero_right n (b := d) (by omega)
 omega
theorem lowN_mul {n d : Int} (hd : 0 < d) : lowN n d * gcdI n d = n := Int.tdiv_mul_cancel (Int.gcd_dvd_left n d)
theorem lowD_mul {n d : Int} (hd : 0 < d) : lowD n d * gcdI n d = d := Int.ediv_mul_cancel (Int.gcd_dvd_right n d)
theorem lowD_pos {n d : Int} (hd : 0 < d) : 0 < lowD n d := by
 have h := lowD_mul (n := n) hd
 have g := gcdI_pos (n := n) hd
 by_cases h1 : 0 < lowD n d
 · exact h1
 · have := Int.mul_le_mul_of_nonneg_right (show lowD n d ≤ 0 by omega) (Int.le_of_lt g)
   omega
theorem gcdI_scale (n d k : Int) (hk : 0 < k) : gcdI (n * k) (d * k) = gcdI n d * k := by
 unfold gcdI
 rw [Int.gcd_mul_right]
 have : (k.natAbs : Int) = k := by omega
 rw [Int.natCast_mul, this]
theorem lowN_scale (n d k : Int) (hk : 0 < k) : lowN (n * k) (d * k) = lowN n d := by
 unfold lowN
 rw [gcdI_scale n d k hk, Int.mul_tdiv_mul_of_pos_left _ _ hk]
theorem lowD_scale (n d k : Int) (hk : 0 < k) : lowD (n * k) (d * k) = lowD n d := by
 unfold lowD
 rw [gcdI_scale n d k hk, Int.mul_ediv_mul_of_pos_left _ _ hk]
theorem low_same {a b c d : Int} (hb : 0 < b) (hd : 0 < d) (h : a * d = c * b) : lowN a b = lowN c d ∧ lowD a b = lowD c d := by
 have e1 := lowN_scale a b d hd; have e2 := lowN_scale c d b hb
 have e3 := lowD_scale a b d hd; have e4 := lowD_scale c d b hb
 rw [h, Int.mul_comm b d] at e1 e3
 exact ⟨e1.symm.trans e2, e3.symm.trans e4⟩
theorem low_cross {n d : Int} (hd : 0 < d) : lowN n d * d = n * lowD n d := by
 have h1 := lowN_mul (n := n) hd; have h2 := lowD_mul (n := n) hd
 obtain ⟨N, hN⟩ : ∃ N, N = lowN n d := ⟨_, rfl⟩
 obtain ⟨D, hD⟩ : ∃ D, D = lowD n d := ⟨_, rfl⟩
 obtain ⟨g, hg⟩ : ∃ g, g = gcdI n d := ⟨_, rfl⟩
 rw [← hN, ← hg] at h1
 rw [← hD, ← hg] at h2
 rw [← hN, ← hD, ← h1]
 conv => lhs; rw [← h2]
 rw [Int.mul_assoc, Int.mul_comm D g]
theorem low_times {n d m : Int} (hd : 0 < d) : lowN (m * lowN n d) (lowD n d) = lowN (m * n) d ∧ lowD (m * lowN n d) (lowD n d) = lowD (m * n) d :=
 low_same (lowD_pos hd) hd (by rw [Int.mul_assoc, low_cross hd, Int.mul_assoc])
theorem low_neg (n d : Int) : lowN (-n) d = -lowN n d ∧ lowD (-n) d = lowD n d := by
 have e : gcdI (-n) d = gcdI n d := by unfold gcdI; rw [Int.neg_gcd]
 unfold lowN lowD
 rw [e, Int.neg_tdiv]
 exact ⟨rfl, rfl⟩
theorem low_sum {a b c d : Int} (hb : 0 < b) (hd : 0 < d) : (lowN a b * lowD c d + lowN c d * lowD a b) * (b * d) = (a * d + c * b) * (lowD a b * lowD c d) := by
 have h1 := low_cross (n := a) hb; have h2 := low_cross (n := c) hd
 obtain ⟨N, hN⟩ : ∃ N, N = lowN a b := ⟨_, rfl⟩
 obtain ⟨D, hD⟩ : ∃ D, D = lowD a b := ⟨_, rfl⟩
 obtain ⟨M, hM⟩ : ∃ M, M = lowN c d := ⟨_, rfl⟩
 obtain ⟨E, hE⟩ : ∃ E, E = lowD c d := ⟨_, rfl⟩
 rw [← hN, ← hD] at h1
 rw [← hM, ← hE] at h2
 rw [← hN, ← hD, ← hM, ← hE]
 have e1 : N * E * (b * d) = a * d * (D * E) := by
  have : N * E * (b * d) = N * b * (E * d) := by ac_rfl
  rw [this, h1]; ac_rfl
 have e2 : M * D * (b * d) = c * b * (D * E) := by
  have : M * D * (b * d) = M * d * (D * b) := by ac_rfl
  rw [this, h2]; ac_rfl
 rw [Int.add_mul, Int.add_mul, e1, e2]
theorem mulB {u v : Int} {A B : Nat} (h : u.natAbs ≤ A) (k : v.natAbs ≤ B) : (u * v).natAbs ≤ A * B := by
 rw [Int.natAbs_mul]; exact Nat.mul_le_mul h k
theorem lowN_abs (n d : Int) (hd : 0 < d) : (lowN n d).natAbs ≤ n.natAbs := by
 have h := lowN_mul (n := n) hd; have g := gcdI_pos (n := n) hd
 have e : n.natAbs = (lowN n d).natAbs * (gcdI n d).natAbs := by rw [← Int.natAbs_mul, h]
 rw [e]
 exact Nat.le_mul_of_pos_right _ (by omega)
theorem lowD_le (n d : Int) (hd : 0 < d) : lowD n d ≤ d := by
 have h := lowD_mul (n := n) hd; have g := gcdI_pos (n := n) hd; have p := lowD_pos (n := n) hd
 have e : d.natAbs = (lowD n d).natAbs * (gcdI n d).natAbs := by rw [← Int.natAbs_mul, h]
 have := Nat.le_mul_of_pos_right (lowD n d).natAbs (show 0 < (gcdI n d).natAbs by omega)
 omega
theorem low_gcd (n d : Int) (hd : 0 < d) : gcdI (lowN n d) (lowD n d) = 1 := by
 have g := gcdI_pos (n := n) hd
 have h := gcdI_scale (lowN n d) (lowD n d) (gcdI n d) g
 rw [lowN_mul hd, lowD_mul hd] at h
 have h2 : gcdI (lowN n d) (lowD n d) * gcdI n d = 1 * gcdI n d := by rw [← h, Int.one_mul]
 exact Int.eq_of_mul_eq_mul_right (by omega) h2
theorem low_right {n d : Int} (hd : 0 < d) (h1 : n.natAbs ≤ 999999999) (h2 : d ≤ 999999999) : checkRatioI (lowN n d) (lowD n d) = 0 := by
 have a1 := lowN_abs n d hd; have a2 := lowD_le n d hd; have a3 := lowD_pos (n := n) hd
 have b1 : rangeB (lowN n d) (-999999999) 999999999 = false := by unfold rangeB; simp only [Bool.or_eq_false_iff, decide_eq_false_iff_not]; omega
 have b2 : rangeB (lowD n d) 1 999999999 = false := by unfold rangeB; simp only [Bool.or_eq_false_iff, decide_eq_false_iff_not]; omega
 unfold checkRatioI
 rw [b1, b2, low_gcd n d hd]
 rfl
theorem sig_of {a b c d x y : Int} (ha : a.natAbs ≤ 10000) (hb : b.natAbs ≤ 10000) (hc : c.natAbs ≤ 10000) (hd : d.natAbs ≤ 10000) (hx : x.natAbs ≤ 10000) (hy : y.natAbs ≤ 10000) (hn : ¬ (a = 0 ∧ b = 0)) : sigE a b c d x y = 0 := by
 have r : ∀ {z : Int}, z.natAbs ≤ 10000 → rangeB z (-10000) 10000 = false := fun {z} h => by unfold rangeB; simp only [Bool.or_eq_false_iff, decide_eq_false_iff_not]; omega
 have z : (a == 0 && b == 0) = false := by
  cases h : (a == 0 && b == 0)
  · rfl
  · rw [Bool.and_eq_true, beq_iff_eq, beq_iff_eq] at h; exact absurd h hn
 unfold sigE partE
 simp only [List.map_cons, List.map_nil, r ha, r hb, r hc, r hd, r hx, r hy, z]
 rfl
structure Nr (a b c d x y : Int) : Prop where
 e : sigE a b c d x y = 0
 a : a.natAbs ≤ 300
 b : b.natAbs ≤ 300
 c : c.natAbs ≤ 300
 d : d.natAbs ≤ 300
 x : x.natAbs ≤ 300
 y : y.natAbs ≤ 300
theorem inB_abs {m p : Int} (hm : 0 ≤ m) (h : inB m p = true) : p.natAbs ≤ m.natAbs := by
 unfold inB at h
 simp only [Bool.and_eq_true, Bool.not_eq_true', decide_eq_false_iff_not] at h
 omega
theorem near_good {a b c d x y : Int} (h : nearB 300 a b c d x y = true) : Nr a b c d x y := by
 unfold nearB at h
 simp only [Bool.and_eq_true, decide_eq_true_eq] at h
 obtain ⟨⟨⟨h1, h2, h3⟩, h4, h5⟩, h6, h7⟩ := h
 exact ⟨h1, inB_abs (by decide) h2, inB_abs (by decide) h3, inB_abs (by decide) h4, inB_abs (by decide) h5, inB_abs (by decide) h6, inB_abs (by decide) h7⟩
theorem needleE {a b c d x y n q p r : Int} (hE : sigE a b c d x y = 0) (hn : c * a + d * b - (x * a + y * b) = n) (hq : a * a + b * b = q) (hp : lowN n q = p) (hr : lowD n q = r) (W : World) : Calls Tryz.prog 36 #[.agg #[.int .i64 a, .int .i64 b, .int .i64 c, .int .i64 d, .int .i64 x, .int .i64 y]] W fun e w' => e = .returned (.tuple #[.agg #[.int .i64 p, .int .i64 r], .int .i64 0]) ∧ Below W.heap.size W w' := by
 subst hp hr hn hq
 exact needleT_ok a b c d x y W hE
theorem sumE {a b c d x y n q p r : Int} (hE : sigE a b c d x y = 0) (hn : c * a + d * b + (x * a + y * b) = n) (hq : a * a + b * b = q) (hp : lowN n q = p) (hr : lowD n q = r) (W : World) : Calls Tryz.prog 38 #[.agg #[.int .i64 a, .int .i64 b, .int .i64 c, .int .i64 d, .int .i64 x, .int .i64 y]] W fun e w' => e = .returned (.tuple #[.agg #[.int .i64 p, .int .i64 r], .int .i64 0]) ∧ Below W.heap.size W w' := by
 subst hp hr hn hq
 exact sumT_ok a b c d x y W hE
theorem depthsE {a b c d x y n m q p r s t : Int} (hE : sigE a b c d x y = 0) (hn : c * a + d * b = n) (hm : x * a + y * b = m) (hq : a * a + b * b = q) (hp : lowN n q = p) (hr : lowD n q = r) (hs : lowN m q = s) (ht : lowD m q = t) (W : World) : Calls Tryz.prog 37 #[.agg #[.int .i64 a, .int .i64 b, .int .i64 c, .int .i64 d, .int .i64 x, .int .i64 y]] W fun e w' => e = .returned (.tuple #[.agg #[.int .i64 p, .int .i64 r], .agg #[.int .i64 s, .int .i64 t], .int .i64 0]) ∧ Below W.heap.size W w' := by
 subst hp hr hs ht hn hm hq
 exact depthsT_ok a b c d x y W hE
theorem part_of {k l : Int} (hk : k.natAbs ≤ 1000) (hl : l.natAbs ≤ 1000) : firstI ([(k, l)].map (partE 1000)) = 0 := by
 have r : ∀ {z : Int}, z.natAbs ≤ 1000 → rangeB z (-1000) 1000 = false := fun {z} h => by unfold rangeB; simp only [Bool.or_eq_false_iff, decide_eq_false_iff_not]; omega
 unfold partE
 simp only [List.map_cons, List.map_nil, r hk, r hl]
 rfl
theorem scaledE {a b c d x y k l m n s1 s2 s3 s4 s5 s6 : Int} (hE : sigE a b c d x y = 0) (hk : k.natAbs ≤ 1000) (hl : l.natAbs ≤ 1000) (hz : ¬ (k = 0 ∧ l = 0)) (hm : m.natAbs ≤ 1000) (hn : n.natAbs ≤ 1000) (e1 : a * k - b * l = s1) (e2 : a * l + b * k = s2) (e3 : c * m - d * n = s3) (e4 : c * n + d * m = s4) (e5 : x * m - y * n = s5) (e6 : x * n + y * m = s6) (hS : sigE s1 s2 s3 s4 s5 s6 = 0) (W : World) :
 Calls Tryz.prog 40 #[.agg #[.int .i64 a, .int .i64 b, .int .i64 c, .int .i64 d, .int .i64 x, .int .i64 y], .agg #[.int .i64 k, .int .i64 l], .agg #[.int .i64 m, .int .i64 n]] W fun e w' => e = .returned (.tuple #[.agg #[.int .i64 s1, .int .i64 s2, .int .i64 s3, .int .i64 s4, .int .i64 s5, .int .i64 s6], .int .i64 0]) ∧ Below W.heap.size W w' := by
 subst e1 e2 e3 e4 e5 e6
 have z : (k == 0 && l == 0) = false := by
  cases h : (k == 0 && l == 0)
  · rfl
  · rw [Bool.and_eq_true, beq_iff_eq, beq_iff_eq] at h; exact absurd h hz
 have h := scaled_ok a b c d x y k l m n W (by rw [hE, part_of hk hl, part_of hm hn, z]; rfl)
 rw [hS] at h
 exact h
theorem addedE {a b c d x y k l m n u v s1 s2 s3 s4 s5 s6 : Int} (hE : sigE a b c d x y = 0) (hK : sigE k l m n u v = 0) (e1 : a + k = s1) (e2 : b + l = s2) (e3 : c + m = s3) (e4 : d + n = s4) (e5 : x + u = s5) (e6 : y + v = s6) (hS : sigE s1 s2 s3 s4 s5 s6 = 0) (W : World) :
 Calls Tryz.prog 44 #[.agg #[.int .i64 a, .int .i64 b, .int .i64 c, .int .i64 d, .int .i64 x, .int .i64 y], .agg #[.int .i64 k, .int .i64 l, .int .i64 m, .int .i64 n, .int .i64 u, .int .i64 v]] W fun e w' => e = .returned (.tuple #[.agg #[.int .i64 s1, .int .i64 s2, .int .i64 s3, .int .i64 s4, .int .i64 s5, .int .i64 s6], .int .i64 0]) ∧ Below W.heap.size W w' := by
 subst e1 e2 e3 e4 e5 e6
 have h := added_ok a b c d x y k l m n u v W (by rw [hE, hK]; rfl)
 rw [hS] at h
 exact h
theorem turnedE {a b c d x y s1 s2 s3 s4 s5 s6 : Int} (hE : sigE a b c d x y = 0) (e1 : -b = s1) (e2 : a = s2) (e3 : -d = s3) (e4 : c = s4) (e5 : -y = s5) (e6 : x = s6) (W : World) (hT : Tn W) :
 Calls Tryz.prog 41 #[.agg #[.int .i64 a, .int .i64 b, .int .i64 c, .int .i64 d, .int .i64 x, .int .i64 y], .int .i64 1] W fun e w' => e = .returned (.tuple #[.agg #[.int .i64 s1, .int .i64 s2, .int .i64 s3, .int .i64 s4, .int .i64 s5, .int .i64 s6], .int .i64 0]) ∧ Below W.heap.size W w' := by
 subst e1 e2 e3 e4 e5 e6
 have h := turned_ok a b c d x y 1 W hT (by rw [hE]; rfl)
 have i1 : iR 1 = 0 := rfl
 have i2 : iI 1 = 1 := rfl
 rw [i1, i2] at h
 simp only [Int.mul_zero, Int.mul_one, Int.zero_sub, Int.add_zero] at h
 exact h
theorem lowestE {n d p q : Int} (hn : Bd n) (hd : 0 < d ∧ d ≤ 9223372036854775807) (hp : lowN n d = p) (hq : lowD n d = q) (W : World) : Calls Tryz.prog 42 #[.int .i64 n, .int .i64 d] W fun e w' => e = .returned (.agg #[.int .i64 p, .int .i64 q]) ∧ Below W.heap.size W w' := by
 subst hp hq
 exact lowest_any n d W hn hd
theorem rightE {n d p q : Int} (hd : 0 < d) (h1 : n.natAbs ≤ 999999999) (h2 : d ≤ 999999999) (hp : lowN n d = p) (hq : lowD n d = q) (W : World) : Calls Tryz.prog 39 #[.agg #[.int .i64 p, .int .i64 q]] W fun e w' => e = .returned (.bool true) ∧ Below W.heap.size W w' := by
 subst hp hq
 have h := right_any (lowN n d) (lowD n d) W
 rw [low_right hd h1 h2] at h
 exact h
def rotR (a b : Int) : Nat → Int
 | 0 => a
 | 1 => -b
 | 2 => -a
 | 3 => b
 | _ => a
def rotI (a b : Int) : Nat → Int
 | 0 => b
 | 1 => a
 | 2 => -b
 | 3 => -a
 | _ => b
theorem cases4 {k : Nat} (h : k < 4) : k = 0 ∨ k = 1 ∨ k = 2 ∨ k = 3 := by omega
theorem rot_next (a b : Int) (k : Nat) (h : k < 4) : -(rotI a b k) = rotR a b (k + 1) ∧ rotR a b k = rotI a b (k + 1) := by
 rcases cases4 h with rfl | rfl | rfl | rfl <;> simp [rotR, rotI]
theorem rot_abs {a b : Int} {m : Nat} (ha : a.natAbs ≤ m) (hb : b.natAbs ≤ m) (k : Nat) : (rotR a b k).natAbs ≤ m ∧ (rotI a b k).natAbs ≤ m := by
 match k with
 | 0 => exact ⟨ha, hb⟩
 | 1 => exact ⟨by simpa [rotR] using hb, ha⟩
 | 2 => exact ⟨by simpa [rotR] using ha, by simpa [rotI] using hb⟩
 | 3 => exact ⟨hb, by simpa [rotI] using ha⟩
 | k + 4 => exact ⟨ha, hb⟩
theorem rot_zero {a b : Int} (h : ¬ (a = 0 ∧ b = 0)) (k : Nat) : ¬ (rotR a b k = 0 ∧ rotI a b k = 0) := by
 match k with
 | 0 => exact h
 | 1 => simp only [rotR, rotI]; omega
 | 2 => simp only [rotR, rotI]; omega
 | 3 => simp only [rotR, rotI]; omega
 | k + 4 => exact h
theorem rot_dot (a b c d : Int) (k : Nat) : rotR c d k * rotR a b k + rotI c d k * rotI a b k = c * a + d * b := by
 match k with
 | 0 => rfl
 | 1 => simp only [rotR, rotI]; grind
 | 2 => simp only [rotR, rotI]; grind
 | 3 => simp only [rotR, rotI]; grind
 | k + 4 => rfl
theorem abs_le {z : Int} {m k : Nat} (h : z.natAbs ≤ m) (hk : m ≤ k) : z.natAbs ≤ k := Nat.le_trans h hk
theorem wr_abs {z : Int} (h : z.natAbs ≤ 1000000000000) : IntKind.i64.wrap z = z := IntWalk.i64_in _ (by omega)
theorem bd_abs {z : Int} (h : z.natAbs ≤ 1000000000000) : Bd z := by unfold Bd; omega
theorem add_abs {u v : Int} {A B : Nat} (h : u.natAbs ≤ A) (k : v.natAbs ≤ B) : (u + v).natAbs ≤ A + B := by omega
theorem Nr.nz {a b c d x y : Int} (g : Nr a b c d x y) : ¬ (a = 0 ∧ b = 0) := (sig_good g.e).pn
theorem Nr.q {a b c d x y : Int} (g : Nr a b c d x y) : 0 < a * a + b * b ∧ a * a + b * b ≤ 180000 := by
 have h := sq_pos g.nz; have h1 := mulB g.a g.a; have h2 := mulB g.b g.b
 omega
theorem Nr.l {a b c d x y : Int} (g : Nr a b c d x y) : (c * a + d * b).natAbs ≤ 180000 := by
 have h1 := mulB g.c g.a; have h2 := mulB g.d g.b
 omega
theorem Nr.h {a b c d x y : Int} (g : Nr a b c d x y) : (x * a + y * b).natAbs ≤ 180000 := by
 have h1 := mulB g.x g.a; have h2 := mulB g.y g.b
 omega
theorem Nr.eb {a b c d x y t : Int} (g : Nr a b c d x y) (ht : t.natAbs ≤ 20) : sigE a b (c * t) (d * t) (x * t) (y * t) = 0 := by
 have e3 := mulB g.c ht; have e4 := mulB g.d ht; have e5 := mulB g.x ht; have e6 := mulB g.y ht
 have ha := g.a; have hb := g.b
 exact sig_of (by omega) (by omega) (by omega) (by omega) (by omega) (by omega) g.nz
theorem Nr.ex {a b c d x y : Int} (g : Nr a b c d x y) : sigE a b x y c d = 0 := by
 obtain ⟨-, ha, hb, hc, hd, hx, hy⟩ := id g
 exact sig_of (by omega) (by omega) (by omega) (by omega) (by omega) (by omega) g.nz
theorem Nr.eu {a b c d x y p q r u : Int} (g : Nr a b c d x y) (o : Nr a b p q r u) : sigE (a + a) (b + b) (c + p) (d + q) (x + r) (y + u) = 0 := by
 have hn := g.nz
 obtain ⟨-, ha, hb, hc, hd, hx, hy⟩ := id g
 obtain ⟨-, -, -, oc, od, ox, oy⟩ := id o
 exact sig_of (by omega) (by omega) (by omega) (by omega) (by omega) (by omega) (by omega)
theorem Nr.et {a b c d x y : Int} (g : Nr a b c d x y) (k : Nat) : sigE (rotR a b k) (rotI a b k) (rotR c d k) (rotI c d k) (rotR x y k) (rotI x y k) = 0 :=
 sig_of (abs_le (rot_abs g.a g.b k).1 (by decide)) (abs_le (rot_abs g.a g.b k).2 (by decide)) (abs_le (rot_abs g.c g.d k).1 (by decide)) (abs_le (rot_abs g.c g.d k).2 (by decide)) (abs_le (rot_abs g.x g.y k).1 (by decide)) (abs_le (rot_abs g.x g.y k).2 (by decide)) (rot_zero g.nz k)
theorem sub_abs {u v : Int} {A B : Nat} (h : u.natAbs ≤ A) (k : v.natAbs ≤ B) : (u - v).natAbs ≤ A + B := by omega
theorem Nr.ef {a b c d x y s t : Int} (g : Nr a b c d x y) (hs : s.natAbs ≤ 15) (ht : t.natAbs ≤ 15) (hf : ¬ (s = 0 ∧ t = 0)) : sigE (a * s - b * t) (a * t + b * s) (c * s - d * t) (c * t + d * s) (x * s - y * t) (x * t + y * s) = 0 := by
 refine sig_of (abs_le (sub_abs (mulB g.a hs) (mulB g.b ht)) (by decide)) (abs_le (add_abs (mulB g.a ht) (mulB g.b hs)) (by decide)) (abs_le (sub_abs (mulB g.c hs) (mulB g.d ht)) (by decide)) (abs_le (add_abs (mulB g.c ht) (mulB g.d hs)) (by decide)) (abs_le (sub_abs (mulB g.x hs) (mulB g.y ht)) (by decide)) (abs_le (add_abs (mulB g.x ht) (mulB g.y hs)) (by decide)) (fun ⟨z1, z2⟩ => ?_)
 have hP := Int.mul_pos g.q.1 (sq_pos hf)
 have e : (a * s - b * t) * (a * s - b * t) + (a * t + b * s) * (a * t + b * s) = (a * a + b * b) * (s * s + t * t) := by grind
 rw [z1, z2] at e
 rw [← e] at hP
 exact absurd hP (by decide)
theorem f_sq (a b s t : Int) : (a * s - b * t) * (a * s - b * t) + (a * t + b * s) * (a * t + b * s) = (a * a + b * b) * (s * s + t * t) := by grind
theorem f_dot (a b c d s t : Int) : (c * s - d * t) * (a * s - b * t) + (c * t + d * s) * (a * t + b * s) = (c * a + d * b) * (s * s + t * t) := by grind
theorem t_dot (a b c d x y t : Int) : c * t * a + d * t * b - (x * t * a + y * t * b) = t * (c * a + d * b - (x * a + y * b)) := by grind
theorem two_dot (a b c d x y p q r u : Int) : (c + p) * (a + a) + (d + q) * (b + b) - ((x + r) * (a + a) + (y + u) * (b + b)) = 2 * (c * a + d * b - (x * a + y * b) + (p * a + q * b - (r * a + u * b))) := by grind
theorem two_sq (a b : Int) : (a + a) * (a + a) + (b + b) * (b + b) = 4 * (a * a + b * b) := by grind
theorem one_re (a b : Int) : a * 1 - b * 0 = a := by omega
theorem one_im (a b : Int) : a * 0 + b * 1 = b := by omega
theorem t_re (a b t : Int) : a * t - b * 0 = a * t := by rw [Int.mul_zero, Int.sub_zero]
theorem t_im (a b t : Int) : a * 0 + b * t = b * t := by rw [Int.mul_zero, Int.zero_add]
theorem same_sum {S N L Q sN sD nN nD vN vD : Int} (Q0 : 0 < Q) (hS : S + N = 2 * L) (e1 : lowN S Q = sN) (e2 : lowD S Q = sD) (e3 : lowN N Q = nN) (e4 : lowD N Q = nD) (e5 : lowN (2 * L) Q = vN) (e6 : lowD (2 * L) Q = vD) (p : 0 < sD * nD) :
 lowN (sN * nD + nN * sD) (sD * nD) = vN ∧ lowD (sN * nD + nN * sD) (sD * nD) = vD := by
 have t3 := low_sum (a := S) (b := Q) (c := N) (d := Q) Q0 Q0
 rw [e1, e2, e3, e4] at t3
 rw [← e5, ← e6]
 refine low_same p Q0 (Int.eq_of_mul_eq_mul_right (show Q ≠ 0 by omega) ?_)
 have : (sN * nD + nN * sD) * Q * Q = (S + N) * Q * (sD * nD) := by rw [Int.mul_assoc _ Q Q, t3, Int.add_mul S N Q]
 rw [this, hS]
 ac_rfl
theorem same_mean {N O Q nN nD cN cD zN zD : Int} (Q0 : 0 < Q) (e1 : lowN N Q = nN) (e2 : lowD N Q = nD) (e3 : lowN O Q = cN) (e4 : lowD O Q = cD) (e5 : lowN (2 * (N + O)) (4 * Q) = zN) (e6 : lowD (2 * (N + O)) (4 * Q) = zD) (p : 0 < 2 * nD * cD) :
 lowN (nN * cD + cN * nD) (2 * nD * cD) = zN ∧ lowD (nN * cD + cN * nD) (2 * nD * cD) = zD := by
 have t5 := low_sum (a := N) (b := Q) (c := O) (d := Q) Q0 Q0
 rw [e1, e2, e3, e4] at t5
 rw [← e5, ← e6]
 refine low_same p (by omega) (Int.eq_of_mul_eq_mul_right (show Q ≠ 0 by omega) ?_)
 have : (nN * cD + cN * nD) * (4 * Q) * Q = 4 * ((nN * cD + cN * nD) * (Q * Q)) := by ac_rfl
 rw [this, t5]
 clear this t5 e1 e2 e3 e4 e5 e6 p
 grind
theorem same_times {N Q t nN nD mN mD : Int} (Q0 : 0 < Q) (e1 : lowN N Q = nN) (e2 : lowD N Q = nD) (e3 : lowN (t * N) Q = mN) (e4 : lowD (t * N) Q = mD) : lowN (t * nN) nD = mN ∧ lowD (t * nN) nD = mD := by
 have h := low_times (n := N) (d := Q) (m := t) Q0
 rw [e1, e2, e3, e4] at h
 exact h
theorem low_bnds {n q p r : Int} (Q0 : 0 < q) (hq : q ≤ 180000) (hn : n.natAbs ≤ 360000) (hp : lowN n q = p) (hr : lowD n q = r) : p.natAbs ≤ 360000 ∧ r.natAbs ≤ 180000 ∧ 0 < r := by
 subst hp hr
 have h1 := lowN_abs n q Q0; have h2 := lowD_le n q Q0; have h3 := lowD_pos (n := n) Q0
 omega
end Go.Proofs.YtaeebedchbkniaaGreatDoor
