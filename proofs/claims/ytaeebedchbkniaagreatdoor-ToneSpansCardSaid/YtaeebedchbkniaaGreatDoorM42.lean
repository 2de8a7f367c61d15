import Derived.Test.YtaeebedchbkniaaGreatDoorM19
namespace Go.Proofs.YtaeebedchbkniaaGreatDoor
set_option linter.all false
open Go.RowKit Go.Fl
set_option maxRecDepth 100000 in
set_option maxHeartbeats 1000000 in
theorem noisyT_ok (rs rf rl ra rb a b c d x y t E : Int) (w : World) (hE : E = firstI [recE rs rf rl ra rb, sigE a b c d x y, whenI (rangeB t 0 1000) 3]) (h0 : E = 0) (n Q by0 p q : Int) (bn : n.natAbs ≤ 1000000000) (bb : 0 ≤ by0 ∧ by0 ≤ 100000000) (hby : by0 = 2 * t * (max a (-a) + max b (-b))) (ht : 0 ≤ t ∧ t ≤ 1000) (ha : a.natAbs ≤ 10000) (hb : b.natAbs ≤ 10000) (HN : ∀ W, Calls Tryz.prog 80 #[.agg #[.int .i64 a, .int .i64 b, .int .i64 c, .int .i64 d, .int .i64 x, .int .i64 y]] W fun e w' => e = .returned (.agg #[.int .i64 n, .int .i64 Q]) ∧ Below W.heap.size W w') (HP : ∀ W, Calls Tryz.prog 114 #[.agg #[.int .i64 rs, .int .i64 rf, .int .i64 rl, .int .i64 ra, .int .i64 rb], .agg #[.int .i64 (n - by0), .int .i64 Q]] W fun e w' => e = .returned (.int .i64 p) ∧ Below W.heap.size W w') (HQ : ∀ W, Calls Tryz.prog 114 #[.agg #[.int .i64 rs, .int .i64 rf, .int .i64 rl, .int .i64 ra, .int .i64 rb], .agg #[.int .i64 (n + by0), .int .i64 Q]] W fun e w' => e = .returned (.int .i64 q) ∧ Below W.heap.size W w') : Calls Tryz.prog 47 #[.agg #[.int .i64 rs, .int .i64 rf, .int .i64 rl, .int .i64 ra, .int .i64 rb], .agg #[.int .i64 a, .int .i64 b, .int .i64 c, .int .i64 d, .int .i64 x, .int .i64 y], .int .i64 t] w fun e w' => e = .returned (.tuple #[.agg #[.int .i64 p, .int .i64 q], .int .i64 0]) ∧ Below w.heap.size w w' := by
 have HN := Lib.hid HN; have HP := Lib.hid HP; have HQ := Lib.hid HQ
 have HC1 : Hid (∀ W, Calls Tryz.prog 12 #[.agg #[.int .i64 rs, .int .i64 rf, .int .i64 rl, .int .i64 ra, .int .i64 rb]] W fun e w' => e = .returned (.int .i64 (recE rs rf rl ra rb)) ∧ Below W.heap.size W w') := fun W => checkReceiver_any rs rf rl ra rb W
 have HC2 : Hid (∀ W, Calls Tryz.prog 64 #[.agg #[.int .i64 a, .int .i64 b, .int .i64 c, .int .i64 d, .int .i64 x, .int .i64 y]] W fun e w' => e = .returned (.int .i64 (sigE a b c d x y)) ∧ Below W.heap.size W w') := fun W => checkSignal_any a b c d x y W
 have HC3 : Hid (∀ W, Calls Tryz.prog 62 #[.int .i64 t, .int .i64 0, .int .i64 1000] W fun e w' => e = .returned (.int .i64 (whenI (rangeB t 0 1000) 3)) ∧ W = w') := fun W => between_any t 0 1000 W
 obtain ⟨E1, hE1⟩ : ∃ E1, E1 = recE rs rf rl ra rb := ⟨_, rfl⟩
 obtain ⟨E2, hE2⟩ : ∃ E2, E2 = sigE a b c d x y := ⟨_, rfl⟩
 obtain ⟨E3, hE3⟩ : ∃ E3, E3 = whenI (rangeB t 0 1000) 3 := ⟨_, rfl⟩
 rw [← hE1] at HC1 hE
 rw [← hE2] at HC2 hE
 rw [← hE3] at HC3 hE
 have HE := Lib.hid hE
 have hne : (E == 0) = true := by simpa using h0
 have hne2 : (E != 0) = false := by simpa using h0
 clear hE hE1 hE2 hE3 h0
 obtain ⟨aa, haa⟩ : ∃ aa, aa = max a (-a) := ⟨_, rfl⟩
 obtain ⟨ab, hab⟩ : ∃ ab, ab = max b (-b) := ⟨_, rfl⟩
 rw [← haa, ← hab] at hby
 have ka : 0 ≤ aa ∧ aa ≤ 10000 := by omega
 have kb : 0 ≤ ab ∧ ab ≤ 10000 := by omega
 have HA : Hid (∀ W, Calls Tryz.prog 113 #[.int .i64 a] W fun e w' => e = .returned (.int .i64 aa) ∧ W = w') := fun W => (absolute_any a W (by unfold Bd; omega)).mono fun e w' h => ⟨by rw [h.1, haa], h.2.symm⟩
 have HAB : Hid (∀ W, Calls Tryz.prog 113 #[.int .i64 b] W fun e w' => e = .returned (.int .i64 ab) ∧ W = w') := fun W => (absolute_any b W (by unfold Bd; omega)).mono fun e w' h => ⟨by rw [h.1, hab], h.2.symm⟩
 have e1 : IntKind.i64.wrap (2 * t) = 2 * t := IntWalk.i64_in _ (by omega)
 have e2 : IntKind.i64.wrap (aa + ab) = aa + ab := IntWalk.i64_in _ (by omega)
 have e3 : IntKind.i64.wrap (2 * t * (aa + ab)) = by0 := by rw [← hby]; exact IntWalk.i64_in _ (by omega)
 have e4 : IntKind.i64.wrap (n - by0) = n - by0 := IntWalk.i64_in _ (by omega)
 have e5 : IntKind.i64.wrap (n + by0) = n + by0 := IntWalk.i64_in _ (by omega)
 clear bn bb hby ht ha hb haa hab ka kb
 go_enter Tryz.func47, Tryz.ntmps47
 go_upto_region 1 with fail
 refine genT (fun V => Row V (w.heap.size) 33 [.int .i64 rs, .int .i64 rf, .int .i64 rl, .int .i64 ra, .int .i64 rb] ∧ Row V (w.heap.size + 1) 39 [.int .i64 a, .int .i64 b, .int .i64 c, .int .i64 d, .int .i64 x, .int .i64 y] ∧ Row V (w.heap.size + 1 + 1) 23 [.int .i64 0, .int .i64 0] ∧ Below w.heap.size w V) ⟨(Row.alloc (Row.alloc (rowAt _ _ (by first | rfl | simp only [World.size_alloc])) _) _), (Row.alloc (rowAt _ _ (by first | rfl | simp only [World.size_alloc])) _), (rowAt _ _ (by first | rfl | simp only [World.size_alloc])), ((((Below.refl _ _).alloc (by first | exact Nat.le_refl _ | (simp only [World.size_alloc]; omega)) _).alloc (by first | exact Nat.le_refl _ | (simp only [World.size_alloc]; omega)) _).alloc (by first | exact Nat.le_refl _ | (simp only [World.size_alloc]; omega)) _)⟩ ?_
 intro W1 s1
 have HS1 : Hid (Row W1 (w.heap.size) 33 [.int .i64 rs, .int .i64 rf, .int .i64 rl, .int .i64 ra, .int .i64 rb] ∧ Row W1 (w.heap.size + 1) 39 [.int .i64 a, .int .i64 b, .int .i64 c, .int .i64 d, .int .i64 x, .int .i64 y] ∧ RowN W1 (w.heap.size + 1 + 1) 23 2 ∧ Below w.heap.size w W1) := ⟨s1.1, s1.2.1, ⟨_, rfl, s1.2.2.1⟩, s1.2.2.2⟩
 clear s1
 refine wp_region_held_drew (S := fun V => Row V (w.heap.size) 33 [.int .i64 rs, .int .i64 rf, .int .i64 rl, .int .i64 ra, .int .i64 rb] ∧ Row V (w.heap.size + 1) 39 [.int .i64 a, .int .i64 b, .int .i64 c, .int .i64 d, .int .i64 x, .int .i64 y] ∧ RowN V (w.heap.size + 1 + 1) 23 2 ∧ Below w.heap.size w V) (by kernel_rfl) ?_ (fun hHeld => ?_)
 · exact ⟨(HS1.out.1).drew, (HS1.out.2.1).drew, (HS1.out.2.2.1).drew, (HS1.out.2.2.2).drew⟩
 refine tk 0 11 (.agg #[.int .i64 rs, .int .i64 rf, .int .i64 rl, .int .i64 ra, .int .i64 rb]) rfl (by kernel_rfl) (fun _ _ _ h => h) (by kernel_rfl) (fun V hV => ex_rowT 33 _ rfl (w.heap.size) rfl 33 [.int .i64 rs, .int .i64 rf, .int .i64 rl, .int .i64 ra, .int .i64 rb] _ Tryz.underlying33 rfl (by kernel_rfl) (hV.1)) hHeld ?_
 try simp only [zz]
 refine tk 2 13 (.agg #[.int .i64 a, .int .i64 b, .int .i64 c, .int .i64 d, .int .i64 x, .int .i64 y]) rfl (by kernel_rfl) (fun _ _ _ h => h) (by kernel_rfl) (fun V hV => ex_rowT 39 _ rfl (w.heap.size + 1) rfl 39 [.int .i64 a, .int .i64 b, .int .i64 c, .int .i64 d, .int .i64 x, .int .i64 y] _ Tryz.underlying39 rfl (by kernel_rfl) (hV.2.1)) hHeld ?_
 try simp only [zz]
 refine tk 4 15 ?_ rfl (by kernel_rfl) (fun _ _ _ h => h) (by kernel_rfl) ?_ hHeld ?_
 rotate_left
 · intro w1 hSw; (try dsimp only at hSw); go_simp <;> with_reducible rfl
 try simp only [zz]
 refine st1 1 (by kernel_rfl) rfl (fun K hK => ?_)
 go_simp
 go_at_call 12
 refine (HC1.out _).mono ?_
 rintro e v1 ⟨rfl, hb1⟩
 try go_simp
 refine hK.out _ _ ?_ (fun hHeld => ?_)
 · exact ⟨(hHeld.1).old hb1, (hHeld.2.1).old hb1, (hHeld.2.2.1).old hb1, (hHeld.2.2.2).trans ((hb1).mono (hHeld.2.2.2).size)⟩
 clear hK K
 try simp only [zz]
 refine st1 3 (by kernel_rfl) rfl (fun K hK => ?_)
 go_simp
 go_at_call 64
 refine (HC2.out _).mono ?_
 rintro e v3 ⟨rfl, hb3⟩
 try go_simp
 refine hK.out _ _ ?_ (fun hHeld => ?_)
 · exact ⟨(hHeld.1).old hb3, (hHeld.2.1).old hb3, (hHeld.2.2.1).old hb3, (hHeld.2.2.2).trans ((hb3).mono (hHeld.2.2.2).size)⟩
 clear hK K
 try simp only [zz]
 refine st1 5 (by kernel_rfl) rfl (fun K hK => ?_)
 go_simp
 go_at_call 62
 refine (HC3.out _).mono ?_
 rintro e v5 ⟨rfl, rfl⟩
 try go_simp
 refine hK.out _ _ ?_ (fun hHeld => ?_)
 · exact hHeld
 clear hK K
 try simp only [zz]
 refine st1 6 (by kernel_rfl) rfl (fun K hK => ?_)
 go_simp
 refine hK.out _ _ ?_ (fun hHeld => ?_)
 · exact ⟨(hHeld.1).old ((Below.refl _ _).alloc (Nat.le_refl _) _), (hHeld.2.1).old ((Below.refl _ _).alloc (Nat.le_refl _) _), (hHeld.2.2.1).old ((Below.refl _ _).alloc (Nat.le_refl _) _), (hHeld.2.2.2).trans ((((Below.refl _ _).alloc (Nat.le_refl _) _)).mono (hHeld.2.2.2).size)⟩
 clear hK K
 try simp only [zz]
 refine st1 7 (by kernel_rfl) rfl (fun K hK => ?_)
 go_simp
 go_at_call 61
 refine (firstV_any _ _ _ [E1, E2, E3] _ ?_ rfl (by simp)).mono ?_
 · exact Rd.newT (t := 31)
 rintro e v13 ⟨rfl, rfl⟩
 try go_simp
 refine hK.out _ _ ?_ (fun hHeld => ?_)
 · exact hHeld
 clear hK K
 try simp only [zz]
 refine tk 8 8 ?_ rfl (by kernel_rfl) (fun _ _ _ h => h) (by kernel_rfl) ?_ hHeld ?_
 rotate_left
 · intro w1 hSw; (try dsimp only at hSw); go_simp <;> with_reducible rfl
 try simp only [zz]
 refine wpAnyH_done (by kernel_rfl) ?_ _
 rw [← HE.out]
 clear HC1 HC2 HC3 HE
 have HS4 := Lib.hid hHeld
 clear hHeld
 go_upto_region 5 with (first
  | (refine wpList_load_row rfl 33 _ rfl (w.heap.size) rfl 33 #[.int .i64 rs, .int .i64 rf, .int .i64 rl, .int .i64 ra, .int .i64 rb] (0, 0) _ HS4.out.1 Tryz.underlying33 rfl ?_ ?_; (kernel_rfl))
  | (refine wpList_load_row rfl 39 _ rfl (w.heap.size + 1) rfl 39 #[.int .i64 a, .int .i64 b, .int .i64 c, .int .i64 d, .int .i64 x, .int .i64 y] (0, 0) _ HS4.out.2.1 Tryz.underlying39 rfl ?_ ?_; (kernel_rfl))
  | (go_at_call 80; refine (HN.out _).mono ?_; rintro e v4 ⟨rfl, hb4⟩; have HS5 : Hid (Row v4 (w.heap.size) 33 [.int .i64 rs, .int .i64 rf, .int .i64 rl, .int .i64 ra, .int .i64 rb] ∧ Row v4 (w.heap.size + 1) 39 [.int .i64 a, .int .i64 b, .int .i64 c, .int .i64 d, .int .i64 x, .int .i64 y] ∧ RowN v4 (w.heap.size + 1 + 1) 23 2 ∧ Below w.heap.size w v4) := ⟨(HS4.out.1).old hb4, (HS4.out.2.1).old hb4, (HS4.out.2.2.1).old hb4, (HS4.out.2.2.2).trans (hb4.mono (HS4.out.2.2.2).size)⟩; clear hb4)
  | (refine wpList_store_row rfl 142 _ _ rfl (v4.heap.size) #[.int .i64 n, .int .i64 Q] rfl rfl 142 _ (Row.new v4 142 [.int .i64 0, .int .i64 0]) ?_ ?_ ?_ ?_; (kernel_rfl); (rfl); (simp [Value.oneCell'])))
 have hbn : Below v4.heap.size v4 ((v4.alloc (.cells #[.int .i64 0, .int .i64 0] 142)).setRow v4.heap.size #[.int .i64 n, .int .i64 Q]) := Below.setRow ((Below.refl _ _).alloc (Nat.le_refl _) _) (Nat.le_refl _) _
 have hz1 : w.heap.size + 1 + 1 < v4.heap.size := (by obtain ⟨vs, _, h⟩ := HS5.out.2.2.1; exact h.lt)
 refine genT (fun V => Row V (w.heap.size) 33 [.int .i64 rs, .int .i64 rf, .int .i64 rl, .int .i64 ra, .int .i64 rb] ∧ Row V (w.heap.size + 1) 39 [.int .i64 a, .int .i64 b, .int .i64 c, .int .i64 d, .int .i64 x, .int .i64 y] ∧ Row V (v4.heap.size) 142 [.int .i64 n, .int .i64 Q] ∧ RowN V (w.heap.size + 1 + 1) 23 2 ∧ Below w.heap.size w V) ⟨(HS5.out.1).old hbn, (HS5.out.2.1).old hbn, (Row.new v4 142 [.int .i64 0, .int .i64 0]).setRow _, (HS5.out.2.2.1).old hbn, (HS5.out.2.2.2).trans (hbn.mono (HS5.out.2.2.2).size)⟩ ?_
 clear hbn HS5 HS4 HN
 intro W6 s6
 have HS6 := Lib.hid s6
 clear s6
 refine wp_region_held_drew (S := fun V => Row V (w.heap.size) 33 [.int .i64 rs, .int .i64 rf, .int .i64 rl, .int .i64 ra, .int .i64 rb] ∧ Row V (w.heap.size + 1) 39 [.int .i64 a, .int .i64 b, .int .i64 c, .int .i64 d, .int .i64 x, .int .i64 y] ∧ Row V (v4.heap.size) 142 [.int .i64 n, .int .i64 Q] ∧ RowN V (w.heap.size + 1 + 1) 23 2 ∧ Below w.heap.size w V) (by kernel_rfl) ?_ (fun hHeld => ?_)
 · exact ⟨(HS6.out.1).drew, (HS6.out.2.1).drew, (HS6.out.2.2.1).drew, (HS6.out.2.2.2.1).drew, (HS6.out.2.2.2.2).drew⟩
 refine tk 0 25 ?_ rfl (by kernel_rfl) (fun _ _ _ h => h) (by kernel_rfl) ?_ hHeld ?_
 rotate_left
 · intro w1 hSw; (try dsimp only at hSw); go_simp <;> with_reducible rfl
 try simp only [zz]
 refine tk 1 26 ?_ rfl (by kernel_rfl) (fun _ _ _ h => h) (by kernel_rfl) ?_ hHeld ?_
 rotate_left
 · intro w1 hSw; (try dsimp only at hSw); go_simp <;> with_reducible rfl
 try simp only [zz]
 refine tk 2 27 ?_ rfl (by kernel_rfl) (fun _ _ _ h => h) (by kernel_rfl) ?_ hHeld ?_
 rotate_left
 · intro w1 hSw; (try dsimp only at hSw); go_simp <;> with_reducible rfl
 try simp only [zz]
 refine tk 3 28 ?_ rfl (by kernel_rfl) (fun _ _ _ h => h) (by kernel_rfl) ?_ hHeld ?_
 rotate_left
 · intro w1 hSw; (try dsimp only at hSw); go_simp <;> with_reducible rfl
 try simp only [zz]
 refine tk 4 29 ?_ rfl (by kernel_rfl) (fun _ _ _ h => h) (by kernel_rfl) ?_ hHeld ?_
 rotate_left
 · intro w1 hSw; (try dsimp only at hSw); have cc := (hSw.2.1).cell 0; simp only [List.getElem?_cons_succ, List.getElem?_cons_zero] at cc; go_simp <;> with_reducible rfl
 try simp only [zz]
 refine tk 6 31 ?_ rfl (by kernel_rfl) (fun _ _ _ h => h) (by kernel_rfl) ?_ hHeld ?_
 rotate_left
 · intro w1 hSw; (try dsimp only at hSw); go_simp <;> with_reducible rfl
 try simp only [zz]
 refine tk 7 32 ?_ rfl (by kernel_rfl) (fun _ _ _ h => h) (by kernel_rfl) ?_ hHeld ?_
 rotate_left
 · intro w1 hSw; (try dsimp only at hSw); go_simp <;> with_reducible rfl
 try simp only [zz]
 refine tk 8 33 ?_ rfl (by kernel_rfl) (fun _ _ _ h => h) (by kernel_rfl) ?_ hHeld ?_
 rotate_left
 · intro w1 hSw; (try dsimp only at hSw); have cc := (hSw.2.1).cell 1; simp only [List.getElem?_cons_succ, List.getElem?_cons_zero] at cc; go_simp <;> with_reducible rfl
 try simp only [zz]
 refine st1 5 (by kernel_rfl) rfl (fun K hK => ?_)
 go_simp
 go_at_call 113
 refine (HA.out _).mono ?_
 rintro e v5 ⟨rfl, rfl⟩
 try go_simp
 refine hK.out _ _ ?_ (fun hHeld => ?_)
 · exact hHeld
 clear hK K
 try simp only [zz]
 refine st1 9 (by kernel_rfl) rfl (fun K hK => ?_)
 go_simp
 go_at_call 113
 refine (HAB.out _).mono ?_
 rintro e v9 ⟨rfl, rfl⟩
 try go_simp
 refine hK.out _ _ ?_ (fun hHeld => ?_)
 · exact hHeld
 clear hK K
 try simp only [zz]
 refine tk 10 35 ?_ rfl (by kernel_rfl) (fun _ _ _ h => h) (by kernel_rfl) ?_ hHeld ?_
 rotate_left
 · intro w1 hSw; (try dsimp only at hSw); go_simp <;> with_reducible rfl
 try simp only [zz]
 refine tk 11 36 ?_ rfl (by kernel_rfl) (fun _ _ _ h => h) (by kernel_rfl) ?_ hHeld ?_
 rotate_left
 · intro w1 hSw; (try dsimp only at hSw); go_simp <;> with_reducible rfl
 try simp only [zz]
 refine tk 12 10 ?_ rfl (by kernel_rfl) (fun _ _ _ h => h) (by kernel_rfl) ?_ hHeld ?_
 rotate_left
 · intro w1 hSw; (try dsimp only at hSw); go_simp <;> with_reducible rfl
 try simp only [zz]
 refine wpAnyH_done (by kernel_rfl) ?_ _
 have HS7 := Lib.hid hHeld
 clear hHeld
 go_upto_region 6 with fail
 refine wp_region_held_drew (S := fun V => Row V (w.heap.size) 33 [.int .i64 rs, .int .i64 rf, .int .i64 rl, .int .i64 ra, .int .i64 rb] ∧ Row V (w.heap.size + 1) 39 [.int .i64 a, .int .i64 b, .int .i64 c, .int .i64 d, .int .i64 x, .int .i64 y] ∧ Row V (v4.heap.size) 142 [.int .i64 n, .int .i64 Q] ∧ RowN V (w.heap.size + 1 + 1) 23 2 ∧ Below w.heap.size w V) (by kernel_rfl) ?_ (fun hHeld => ?_)
 · exact ⟨(HS7.out.1).drew, (HS7.out.2.1).drew, (HS7.out.2.2.1).drew, (HS7.out.2.2.2.1).drew, (HS7.out.2.2.2.2).drew⟩
 refine tk 0 37 (.agg #[.int .i64 rs, .int .i64 rf, .int .i64 rl, .int .i64 ra, .int .i64 rb]) rfl (by kernel_rfl) (fun _ _ _ h => h) (by kernel_rfl) (fun V hV => ex_rowT 33 _ rfl (w.heap.size) rfl 33 [.int .i64 rs, .int .i64 rf, .int .i64 rl, .int .i64 ra, .int .i64 rb] _ Tryz.underlying33 rfl (by kernel_rfl) (hV.1)) hHeld ?_
 try simp only [zz]
 refine tk 1 38 ?_ rfl (by kernel_rfl) (fun _ _ _ h => h) (by kernel_rfl) ?_ hHeld ?_
 rotate_left
 · intro w1 hSw; (try dsimp only at hSw); go_simp <;> with_reducible rfl
 try simp only [zz]
 refine tk 2 39 ?_ rfl (by kernel_rfl) (fun _ _ _ h => h) (by kernel_rfl) ?_ hHeld ?_
 rotate_left
 · intro w1 hSw; (try dsimp only at hSw); have cc := (hSw.2.2.1).cell 0; simp only [List.getElem?_cons_succ, List.getElem?_cons_zero] at cc; go_simp <;> with_reducible rfl
 try simp only [zz]
 refine tk 3 40 ?_ rfl (by kernel_rfl) (fun _ _ _ h => h) (by kernel_rfl) ?_ hHeld ?_
 rotate_left
 · intro w1 hSw; (try dsimp only at hSw); go_simp <;> with_reducible rfl
 try simp only [zz]
 refine tk 4 41 ?_ rfl (by kernel_rfl) (fun _ _ _ h => h) (by kernel_rfl) ?_ hHeld ?_
 rotate_left
 · intro w1 hSw; (try dsimp only at hSw); go_simp <;> with_reducible rfl
 try simp only [zz]
 refine tk 5 42 ?_ rfl (by kernel_rfl) (fun _ _ _ h => h) (by kernel_rfl) ?_ hHeld ?_
 rotate_left
 · intro w1 hSw; (try dsimp only at hSw); go_simp <;> with_reducible rfl
 try simp only [zz]
 refine tk 6 43 ?_ rfl (by kernel_rfl) (fun _ _ _ h => h) (by kernel_rfl) ?_ hHeld ?_
 rotate_left
 · intro w1 hSw; (try dsimp only at hSw); have cc := (hSw.2.2.1).cell 1; simp only [List.getElem?_cons_succ, List.getElem?_cons_zero] at cc; go_simp <;> with_reducible rfl
 try simp only [zz]
 refine tk 7 44 ?_ rfl (by kernel_rfl) (fun _ _ _ h => h) (by kernel_rfl) ?_ hHeld ?_
 rotate_left
 · intro w1 hSw; (try dsimp only at hSw); go_simp <;> with_reducible rfl
 try simp only [zz]
 refine tk 9 46 (.agg #[.int .i64 rs, .int .i64 rf, .int .i64 rl, .int .i64 ra, .int .i64 rb]) rfl (by kernel_rfl) (fun _ _ _ h => h) (by kernel_rfl) (fun V hV => ex_rowT 33 _ rfl (w.heap.size) rfl 33 [.int .i64 rs, .int .i64 rf, .int .i64 rl, .int .i64 ra, .int .i64 rb] _ Tryz.underlying33 rfl (by kernel_rfl) (hV.1)) hHeld ?_
 try simp only [zz]
 refine tk 10 47 ?_ rfl (by kernel_rfl) (fun _ _ _ h => h) (by kernel_rfl) ?_ hHeld ?_
 rotate_left
 · intro w1 hSw; (try dsimp only at hSw); go_simp <;> with_reducible rfl
 try simp only [zz]
 refine tk 11 48 ?_ rfl (by kernel_rfl) (fun _ _ _ h => h) (by kernel_rfl) ?_ hHeld ?_
 rotate_left
 · intro w1 hSw; (try dsimp only at hSw); have cc := (hSw.2.2.1).cell 0; simp only [List.getElem?_cons_succ, List.getElem?_cons_zero] at cc; go_simp <;> with_reducible rfl
 try simp only [zz]
 refine tk 12 49 ?_ rfl (by kernel_rfl) (fun _ _ _ h => h) (by kernel_rfl) ?_ hHeld ?_
 rotate_left
 · intro w1 hSw; (try dsimp only at hSw); go_simp <;> with_reducible rfl
 try simp only [zz]
 refine tk 13 50 ?_ rfl (by kernel_rfl) (fun _ _ _ h => h) (by kernel_rfl) ?_ hHeld ?_
 rotate_left
 · intro w1 hSw; (try dsimp only at hSw); go_simp <;> with_reducible rfl
 try simp only [zz]
 refine tk 14 51 ?_ rfl (by kernel_rfl) (fun _ _ _ h => h) (by kernel_rfl) ?_ hHeld ?_
 rotate_left
 · intro w1 hSw; (try dsimp only at hSw); go_simp <;> with_reducible rfl
 try simp only [zz]
 refine tk 15 52 ?_ rfl (by kernel_rfl) (fun _ _ _ h => h) (by kernel_rfl) ?_ hHeld ?_
 rotate_left
 · intro w1 hSw; (try dsimp only at hSw); have cc := (hSw.2.2.1).cell 1; simp only [List.getElem?_cons_succ, List.getElem?_cons_zero] at cc; go_simp <;> with_reducible rfl
 try simp only [zz]
 refine tk 16 53 ?_ rfl (by kernel_rfl) (fun _ _ _ h => h) (by kernel_rfl) ?_ hHeld ?_
 rotate_left
 · intro w1 hSw; (try dsimp only at hSw); go_simp <;> with_reducible rfl
 try simp only [zz]
 refine st1 8 (by kernel_rfl) rfl (fun K hK => ?_)
 go_simp
 go_at_call 114
 refine (HP.out _).mono ?_
 rintro e v8 ⟨rfl, hb8⟩
 try go_simp
 refine hK.out _ _ ?_ (fun hHeld => ?_)
 · exact ⟨(hHeld.1).old hb8, (hHeld.2.1).old hb8, (hHeld.2.2.1).old hb8, (hHeld.2.2.2.1).old hb8, (hHeld.2.2.2.2).trans ((hb8).mono (hHeld.2.2.2.2).size)⟩
 clear hK K
 try simp only [zz]
 refine st1 17 (by kernel_rfl) rfl (fun K hK => ?_)
 go_simp
 go_at_call 114
 refine (HQ.out _).mono ?_
 rintro e v17 ⟨rfl, hb17⟩
 try go_simp
 refine hK.out _ _ ?_ (fun hHeld => ?_)
 · exact ⟨(hHeld.1).old hb17, (hHeld.2.1).old hb17, (hHeld.2.2.1).old hb17, (hHeld.2.2.2.1).old hb17, (hHeld.2.2.2.2).trans ((hb17).mono (hHeld.2.2.2.2).size)⟩
 clear hK K
 try simp only [zz]
 refine tk 18 55 ?_ rfl (by kernel_rfl) (fun _ _ _ h => h) (by kernel_rfl) ?_ hHeld ?_
 rotate_left
 · intro w1 hSw; (try dsimp only at hSw); go_simp <;> with_reducible rfl
 try simp only [zz]
 refine st1 19 (by kernel_rfl) rfl (fun K hK => ?_)
 obtain ⟨vs, hvl, hvr⟩ := (hHeld.2.2.2.1)
 have hLast := hHeld
 refine step_store_row rfl 23 _ _ rfl (w.heap.size + 1 + 1) [.int .i64 p, .int .i64 q] rfl rfl 23 vs hvr (by kernel_rfl) hvl (by simp [Value.oneCell']) ?_
 refine hK.out _ _ ?_ (fun hHeld => ?_)
 · exact ⟨(hHeld.1).farRow (by omega) _, (hHeld.2.1).farRow (by omega) _, (hHeld.2.2.1).farRow (by omega) _, ⟨_, rfl, hvr.setRow _⟩, Below.setRow (hHeld.2.2.2.2) (by omega) _⟩
 clear hK K
 try simp only [zz]
 refine tk 20 7 ?_ rfl (by kernel_rfl) (fun _ _ _ h => h) (by kernel_rfl) ?_ hHeld ?_
 rotate_left
 · intro w1 hSw; (try dsimp only at hSw); go_simp <;> with_reducible rfl
 try simp only [zz]
 refine wpAnyH_done (by kernel_rfl) ?_ _
 go_wp2_with fail
 refine bodyPost_ret (results_rt rfl _ _ (w.heap.size + 1 + 1) 23 #[.int .i64 p, .int .i64 q] (0, 0) _ rfl (hvr.setRow [.int .i64 p, .int .i64 q]) Tryz.underlying23 rfl (by kernel_rfl)) rfl ⟨rfl, Below.setRow hLast.2.2.2.2 (by omega) _⟩
set_option maxRecDepth 100000 in
set_option maxHeartbeats 1000000 in
theorem checkIntervalR_any (lo hi low high : Int) (w : World) : Calls Tryz.prog 60 #[.agg #[.int .i64 lo, .int .i64 hi], .int .i64 low, .int .i64 high] w fun e w' => e = .returned (.int .i64 (ivE lo hi low high)) ∧ Below w.heap.size w w' := by
 go_enter Tryz.func60, Tryz.ntmps60
 go_upto_region 1 with fail
 refine genT (fun V => Row V (w.heap.size) 23 [.int .i64 lo, .int .i64 hi] ∧ Below w.heap.size w V) ⟨(rowAt _ _ (by first | rfl | simp only [World.size_alloc])), ((Below.refl _ _).alloc (by first | exact Nat.le_refl _ | (simp only [World.size_alloc]; omega)) _)⟩ ?_
 intro W1 s1
 have HS1 := Lib.hid s1
 clear s1
 refine wp_region_held_drew (S := fun V => Row V (w.heap.size) 23 [.int .i64 lo, .int .i64 hi] ∧ Below w.heap.size w V) (by kernel_rfl) ?_ (fun hHeld => ?_)
 · exact ⟨(HS1.out.1).drew, (HS1.out.2).drew⟩
 refine tk 0 7 ?_ rfl (by kernel_rfl) (fun _ _ _ h => h) (by kernel_rfl) ?_ hHeld ?_
 rotate_left
 · intro w1 hSw; (try dsimp only at hSw); go_simp <;> with_reducible rfl
 try simp only [zz]
 refine tk 1 8 ?_ rfl (by kernel_rfl) (fun _ _ _ h => h) (by kernel_rfl) ?_ hHeld ?_
 rotate_left
 · intro w1 hSw; (try dsimp only at hSw); have cc := (hSw.1).cell 0; simp only [List.getElem?_cons_succ, List.getElem?_cons_zero] at cc; go_simp <;> with_reducible rfl
 try simp only [zz]
 refine tk 2 9 ?_ rfl (by kernel_rfl) (fun _ _ _ h => h) (by kernel_rfl) ?_ hHeld ?_
 rotate_left
 · intro w1 hSw; (try dsimp only at hSw); go_simp <;> with_reducible rfl
 try simp only [zz]
 refine tk 3 10 ?_ rfl (by kernel_rfl) (fun _ _ _ h => h) (by kernel_rfl) ?_ hHeld ?_
 rotate_left
 · intro w1 hSw; (try dsimp only at hSw); go_simp <;> with_reducible rfl
 try simp only [zz]
 refine tk 5 12 ?_ rfl (by kernel_rfl) (fun _ _ _ h => h) (by kernel_rfl) ?_ hHeld ?_
 rotate_left
 · intro w1 hSw; (try dsimp only at hSw); go_simp <;> with_reducible rfl
 try simp only [zz]
 refine tk 6 13 ?_ rfl (by kernel_rfl) (fun _ _ _ h => h) (by kernel_rfl) ?_ hHeld ?_
 rotate_left
 · intro w1 hSw; (try dsimp only at hSw); have cc := (hSw.1).cell 1; simp only [List.getElem?_cons_succ, List.getElem?_cons_zero] at cc; go_simp <;> with_reducible rfl
 try simp only [zz]
 refine tk 7 14 ?_ rfl (by kernel_rfl) (fun _ _ _ h => h) (by kernel_rfl) ?_ hHeld ?_
 rotate_left
 · intro w1 hSw; (try dsimp only at hSw); go_simp <;> with_reducible rfl
 try simp only [zz]
 refine tk 8 15 ?_ rfl (by kernel_rfl) (fun _ _ _ h => h) (by kernel_rfl) ?_ hHeld ?_
 rotate_left
 · intro w1 hSw; (try dsimp only at hSw); go_simp <;> with_reducible rfl
 try simp only [zz]
 refine tk 10 17 ?_ rfl (by kernel_rfl) (fun _ _ _ h => h) (by kernel_rfl) ?_ hHeld ?_
 rotate_left
 · intro w1 hSw; (try dsimp only at hSw); go_simp <;> with_reducible rfl
 try simp only [zz]
 refine tk 11 18 ?_ rfl (by kernel_rfl) (fun _ _ _ h => h) (by kernel_rfl) ?_ hHeld ?_
 rotate_left
 · intro w1 hSw; (try dsimp only at hSw); have cc := (hSw.1).cell 0; simp only [List.getElem?_cons_succ, List.getElem?_cons_zero] at cc; go_simp <;> with_reducible rfl
 try simp only [zz]
 refine tk 12 19 ?_ rfl (by kernel_rfl) (fun _ _ _ h => h) (by kernel_rfl) ?_ hHeld ?_
 rotate_left
 · intro w1 hSw; (try dsimp only at hSw); go_simp <;> with_reducible rfl
 try simp only [zz]
 refine tk 13 20 ?_ rfl (by kernel_rfl) (fun _ _ _ h => h) (by kernel_rfl) ?_ hHeld ?_
 rotate_left
 · intro w1 hSw; (try dsimp only at hSw); have cc := (hSw.1).cell 1; simp only [List.getElem?_cons_succ, List.getElem?_cons_zero] at cc; go_simp <;> with_reducible rfl
 try simp only [zz]
 refine tk 14 21 ?_ rfl (by kernel_rfl) (fun _ _ _ h => h) (by kernel_rfl) ?_ hHeld ?_
 rotate_left
 · intro w1 hSw; (try dsimp only at hSw); go_simp <;> with_reducible rfl
 try simp only [zz]
 refine st1 4 (by kernel_rfl) rfl (fun K hK => ?_)
 go_simp
 go_at_call 59
 refine (checkRange_any lo low high _).mono ?_
 rintro e v4 ⟨rfl, rfl⟩
 try go_simp
 refine hK.out _ _ ?_ (fun hHeld => ?_)
 · exact hHeld
 clear hK K
 try simp only [zz]
 refine st1 9 (by kernel_rfl) rfl (fun K hK => ?_)
 go_simp
 go_at_call 59
 refine (checkRange_any hi low high _).mono ?_
 rintro e v9 ⟨rfl, rfl⟩
 try go_simp
 refine hK.out _ _ ?_ (fun hHeld => ?_)
 · exact hHeld
 clear hK K
 try simp only [zz]
 refine st1 15 (by kernel_rfl) rfl (fun K hK => ?_)
 go_simp
 go_at_call 67
 refine (when_any (decide (hi < lo)) 11 _).mono ?_
 rintro e v15 ⟨rfl, rfl⟩
 try go_simp
 refine hK.out _ _ ?_ (fun hHeld => ?_)
 · exact hHeld
 clear hK K
 try simp only [zz]
 refine st1 16 (by kernel_rfl) rfl (fun K hK => ?_)
 go_simp
 refine hK.out _ _ ?_ (fun hHeld => ?_)
 · exact ⟨(hHeld.1).old ((Below.refl _ _).alloc (Nat.le_refl _) _), (hHeld.2).trans ((((Below.refl _ _).alloc (Nat.le_refl _) _)).mono (hHeld.2).size)⟩
 clear hK K
 try simp only [zz]
 refine st1 17 (by kernel_rfl) rfl (fun K hK => ?_)
 go_simp
 go_at_call 14
 refine (first_any _ _ _ [whenI (rangeB lo low high) 3, whenI (rangeB hi low high) 3, whenI (decide (hi < lo)) 11] _ ?_ rfl (by simp)).mono ?_
 · exact Rd.newT (t := 3)
 rintro e v99 ⟨rfl, rfl⟩
 try go_simp
 refine hK.out _ _ ?_ (fun hHeld => ?_)
 · exact hHeld
 clear hK K
 try simp only [zz]
 refine tk 18 6 ?_ rfl (by kernel_rfl) (fun _ _ _ h => h) (by kernel_rfl) ?_ hHeld ?_
 rotate_left
 · intro w1 hSw; (try dsimp only at hSw); go_simp <;> with_reducible rfl
 try simp only [zz]
 refine wpAnyH_done (by kernel_rfl) ?_ _
 go_wp2_with fail
 go_ret
 exact ⟨rfl, hHeld.2⟩
set_option maxRecDepth 100000 in
set_option maxHeartbeats 1000000 in
theorem checkReceiverR_any (rs rf rl ra rb : Int) (w : World) : Calls Tryz.prog 11 #[.agg #[.int .i64 rs, .int .i64 rf, .int .i64 rl, .int .i64 ra, .int .i64 rb]] w fun e w' => e = .returned (.int .i64 (recE rs rf rl ra rb)) ∧ Below w.heap.size w w' := by
 obtain ⟨E4, hE4⟩ : ∃ E4, E4 = ivE ra rb (-10000) 10000 := ⟨_, rfl⟩
 have hR : recE rs rf rl ra rb = firstI [whenI (rangeB rs 1 1000) 3, whenI (rangeB rf 1 1000) 3, whenI (rangeB rl 0 200000000) 3, E4] := by unfold recE; rw [← hE4]
 have HI : Hid (∀ W, Calls Tryz.prog 60 #[.agg #[.int .i64 ra, .int .i64 rb], .int .i64 (-10000), .int .i64 10000] W fun e w' => e = .returned (.int .i64 E4) ∧ Below W.heap.size W w') := fun W => by rw [hE4]; exact checkIntervalR_any ra rb (-10000) 10000 W
 rw [hR]
 clear hR hE4
 go_enter Tryz.func11, Tryz.ntmps11
 go_upto_region 1 with fail
 refine genT (fun V => Row V (w.heap.size) 25 [.int .i64 rs, .int .i64 rf, .int .i64 rl, .int .i64 ra, .int .i64 rb] ∧ Below w.heap.size w V) ⟨(rowAt _ _ (by first | rfl | simp only [World.size_alloc])), ((Below.refl _ _).alloc (by first | exact Nat.le_refl _ | (simp only [World.size_alloc]; omega)) _)⟩ ?_
 intro W1 s1
 have HS1 := Lib.hid s1
 clear s1
 refine wp_region_held_drew (S := fun V => Row V (w.heap.size) 25 [.int .i64 rs, .int .i64 rf, .int .i64 rl, .int .i64 ra, .int .i64 rb] ∧ Below w.heap.size w V) (by kernel_rfl) ?_ (fun hHeld => ?_)
 · exact ⟨(HS1.out.1).drew, (HS1.out.2).drew⟩
 refine tk 0 3 ?_ rfl (by kernel_rfl) (fun _ _ _ h => h) (by kernel_rfl) ?_ hHeld ?_
 rotate_left
 · intro w1 hSw; (try dsimp only at hSw); go_simp <;> with_reducible rfl
 try simp only [zz]
 refine tk 1 4 ?_ rfl (by kernel_rfl) (fun _ _ _ h => h) (by kernel_rfl) ?_ hHeld ?_
 rotate_left
 · intro w1 hSw; (try dsimp only at hSw); have cc := (hSw.1).cell 0; simp only [List.getElem?_cons_succ, List.getElem?_cons_zero] at cc; go_simp <;> with_reducible rfl
 try simp only [zz]
 refine tk 3 6 ?_ rfl (by kernel_rfl) (fun _ _ _ h => h) (by kernel_rfl) ?_ hHeld ?_
 rotate_left
 · intro w1 hSw; (try dsimp only at hSw); go_simp <;> with_reducible rfl
 try simp only [zz]
 refine tk 4 7 ?_ rfl (by kernel_rfl) (fun _ _ _ h => h) (by kernel_rfl) ?_ hHeld ?_
 rotate_left
 · intro w1 hSw; (try dsimp only at hSw); have cc := (hSw.1).cell 1; simp only [List.getElem?_cons_succ, List.getElem?_cons_zero] at cc; go_simp <;> with_reducible rfl
 try simp only [zz]
 refine tk 6 9 ?_ rfl (by kernel_rfl) (fun _ _ _ h => h) (by kernel_rfl) ?_ hHeld ?_
 rotate_left
 · intro w1 hSw; (try dsimp only at hSw); go_simp <;> with_reducible rfl
 try simp only [zz]
 refine tk 7 10 ?_ rfl (by kernel_rfl) (fun _ _ _ h => h) (by kernel_rfl) ?_ hHeld ?_
 rotate_left
 · intro w1 hSw; (try dsimp only at hSw); have cc := (hSw.1).cell 2; simp only [List.getElem?_cons_succ, List.getElem?_cons_zero] at cc; go_simp <;> with_reducible rfl
 try simp only [zz]
 refine tk 9 12 ?_ rfl (by kernel_rfl) (fun _ _ _ h => h) (by kernel_rfl) ?_ hHeld ?_
 rotate_left
 · intro w1 hSw; (try dsimp only at hSw); go_simp <;> with_reducible rfl
 try simp only [zz]
 refine tk 10 13 (.agg #[.int .i64 ra, .int .i64 rb]) rfl (by kernel_rfl) (fun _ _ _ h => h) (by kernel_rfl) (fun V hV => ex_Interval _ rfl (w.heap.size) 3 rfl ((hV.1).cell 3) ((hV.1).cell 4)) hHeld ?_
 try simp only [zz]
 refine st1 2 (by kernel_rfl) rfl (fun K hK => ?_)
 go_simp
 go_at_call 59
 refine (checkRange_any rs 1 1000 _).mono ?_
 rintro e v2 ⟨rfl, rfl⟩
 try go_simp
 refine hK.out _ _ ?_ (fun hHeld => ?_)
 · exact hHeld
 clear hK K
 try simp only [zz]
 refine st1 5 (by kernel_rfl) rfl (fun K hK => ?_)
 go_simp
 go_at_call 59
 refine (checkRange_any rf 1 1000 _).mono ?_
 rintro e v5 ⟨rfl, rfl⟩
 try go_simp
 refine hK.out _ _ ?_ (fun hHeld => ?_)
 · exact hHeld
 clear hK K
 try simp only [zz]
 refine st1 8 (by kernel_rfl) rfl (fun K hK => ?_)
 go_simp
 go_at_call 59
 refine (checkRange_any rl 0 200000000 _).mono ?_
 rintro e v8 ⟨rfl, rfl⟩
 try go_simp
 refine hK.out _ _ ?_ (fun hHeld => ?_)
 · exact hHeld
 clear hK K
 try simp only [zz]
 refine st1 11 (by kernel_rfl) rfl (fun K hK => ?_)
 go_simp
 go_at_call 60
 refine (HI.out _).mono ?_
 rintro e v11 ⟨rfl, hb11⟩
 try go_simp
 refine hK.out _ _ ?_ (fun hHeld => ?_)
 · exact ⟨(hHeld.1).old hb11, (hHeld.2).trans ((hb11).mono (hHeld.2).size)⟩
 clear hK K
 try simp only [zz]
 refine st1 12 (by kernel_rfl) rfl (fun K hK => ?_)
 go_simp
 refine hK.out _ _ ?_ (fun hHeld => ?_)
 · exact ⟨(hHeld.1).old ((Below.refl _ _).alloc (Nat.le_refl _) _), (hHeld.2).trans ((((Below.refl _ _).alloc (Nat.le_refl _) _)).mono (hHeld.2).size)⟩
 clear hK K
 try simp only [zz]
 refine st1 13 (by kernel_rfl) rfl (fun K hK => ?_)
 go_simp
 go_at_call 14
 refine (first_any _ _ _ [whenI (rangeB rs 1 1000) 3, whenI (rangeB rf 1 1000) 3, whenI (rangeB rl 0 200000000) 3, E4] _ ?_ rfl (by simp)).mono ?_
 · exact Rd.newT (t := 3)
 rintro e v99 ⟨rfl, rfl⟩
 try go_simp
 refine hK.out _ _ ?_ (fun hHeld => ?_)
 · exact hHeld
 clear hK K
 try simp only [zz]
 refine tk 14 2 ?_ rfl (by kernel_rfl) (fun _ _ _ h => h) (by kernel_rfl) ?_ hHeld ?_
 rotate_left
 · intro w1 hSw; (try dsimp only at hSw); go_simp <;> with_reducible rfl
 try simp only [zz]
 refine wpAnyH_done (by kernel_rfl) ?_ _
 go_wp2_with fail
 go_ret
 exact ⟨rfl, hHeld.2⟩
set_option maxRecDepth 100000 in
theorem floorR_any (n d : Int) (w : World) (hn : n.natAbs ≤ 1000000000000000000) (hd : 0 < d ∧ d ≤ 1000000000000000000) : Calls Tryz.prog 76 #[.int .i64 n, .int .i64 d] w fun e w' => e = .returned (.int .i64 (n / d)) ∧ w = w' := by
 have hf := floor_eq (n := n) hd.1
 obtain ⟨q, hq⟩ : ∃ q, q = n.tdiv d := ⟨_, rfl⟩
 rw [← hq] at hf
 have hqb : q.natAbs ≤ n.natAbs := by rw [hq, Int.natAbs_tdiv]; exact Nat.div_le_self _ _
 have hqd : (q * d).natAbs ≤ n.natAbs := by
  rw [hq, Int.natAbs_mul, Int.natAbs_tdiv]
  exact Nat.div_mul_le_self _ _
 have hne : ¬ d = 0 := by omega
 have hne2 : (d == 0) = false := by simpa using hne
 have e1 : IntKind.i64.wrap (n.tdiv d) = q := by rw [← hq]; exact IntWalk.i64_in _ (by omega)
 have e2 : IntKind.i64.wrap (q * d) = q * d := IntWalk.i64_in _ (by omega)
 have e3 : IntKind.i64.wrap (q - 1) = q - 1 := IntWalk.i64_in _ (by omega)
 have HF := Lib.hid hf
 by_cases hc : n < q * d
 · have HR : Hid (n / d = q - 1) := by unfold Hid; rw [← hf, if_pos hc]
   clear hf hq hqb hqd hn hd
   go_enter Tryz.func76, Tryz.ntmps76
   go_wp2_with fail
   go_ret
   exact ⟨by rw [HR.out]; rfl, rfl⟩
 · have HR : Hid (n / d = q) := by unfold Hid; rw [← hf, if_neg hc]
   clear hf hq hqb hqd hn hd
   go_enter Tryz.func76, Tryz.ntmps76
   go_wp2_with fail
   go_ret
   exact ⟨by rw [HR.out]; rfl, rfl⟩
set_option maxRecDepth 100000 in
theorem roundR_any (n d : Int) (w : World) (hn : n.natAbs ≤ 100000000000000000) (hd : 0 < d ∧ d ≤ 100000000000000000) : Calls Tryz.prog 125 #[.int .i64 n, .int .i64 d] w fun e w' => e = .returned (.int .i64 ((2 * n + d) / (2 * d))) ∧ w = w' := by
 have HF : Hid (∀ W, Calls Tryz.prog 76 #[.int .i64 (2 * n + d), .int .i64 (2 * d)] W fun e w' => e = .returned (.int .i64 ((2 * n + d) / (2 * d))) ∧ W = w') := fun W => floorR_any _ _ W (by omega) (by omega)
 have e1 : IntKind.i64.wrap (2 * n) = 2 * n := IntWalk.i64_in _ (by omega)
 have e2 : IntKind.i64.wrap (2 * d) = 2 * d := IntWalk.i64_in _ (by omega)
 have e3 : IntKind.i64.wrap (2 * n + d) = 2 * n + d := IntWalk.i64_in _ (by omega)
 clear hn hd
 go_enter Tryz.func125, Tryz.ntmps125
 go_wp2_with (go_at_call 76; refine (HF.out _).mono ?_; rintro e w1 ⟨rfl, rfl⟩)
 go_ret
 exact ⟨rfl, rfl⟩
set_option maxRecDepth 100000 in
set_option maxHeartbeats 1000000 in
theorem shownR_any (rs rf rl ra rb n d : Int) (w : World) (hs : 1 ≤ rs ∧ rs ≤ 1000) (hf : 1 ≤ rf ∧ rf ≤ 1000) (hn : n.natAbs ≤ 10000000000000) (hd : 0 < d ∧ d ≤ 10000000000000) : Calls Tryz.prog 70 #[.agg #[.int .i64 rs, .int .i64 rf, .int .i64 rl, .int .i64 ra, .int .i64 rb], .int .i64 n, .int .i64 d] w fun e w' => e = .returned (.int .i64 (shownI rs rf n d)) ∧ Below w.heap.size w w' := by
 have b1 : (n * rs).natAbs ≤ 10000000000000 * 1000 := by rw [Int.natAbs_mul]; exact Nat.mul_le_mul hn (by omega)
 obtain ⟨p, hp⟩ : ∃ p, p = (2 * (n * rs) + d) / (2 * d) := ⟨_, rfl⟩
 have HN : Hid (∀ W, Calls Tryz.prog 125 #[.int .i64 (n * rs), .int .i64 d] W fun e w' => e = .returned (.int .i64 p) ∧ W = w') := fun W => by rw [hp]; exact roundR_any (n * rs) d W (by omega) (by omega)
 have e0 : IntKind.i64.wrap (n * rs) = n * rs := IntWalk.i64_in _ (by omega)
 obtain ⟨nr, hnr⟩ : ∃ nr, nr = n * rs := ⟨_, rfl⟩
 have hsh : shownI rs rf n d = max (-rf) (min rf p) := by unfold shownI; rw [← hp]
 rw [← hnr] at HN e0
 have e1 : IntKind.i64.wrap (-rf) = -rf := IntWalk.i64_in _ (by omega)
 have e2 : IntKind.i64.wrap (0 - rf) = -rf := by rw [Int.zero_sub]; exact e1
 have HF : Hid (1 ≤ rf) := hf.1
 rw [hsh]
 have e3 : IntKind.i64.wrap (n * rs) = nr := by rw [← hnr]; exact e0
 clear hs hf hn hd b1 hp hnr hsh e0
 go_enter Tryz.func70, Tryz.ntmps70
 go_upto_region 1 with fail
 refine genT (fun V => Row V (w.heap.size) 25 [.int .i64 rs, .int .i64 rf, .int .i64 rl, .int .i64 ra, .int .i64 rb] ∧ Below w.heap.size w V) ⟨(rowAt _ _ (by first | rfl | simp only [World.size_alloc])), ((Below.refl _ _).alloc (by first | exact Nat.le_refl _ | (simp only [World.size_alloc]; omega)) _)⟩ ?_
 intro W1 s1
 have HS1 := Lib.hid s1
 clear s1
 refine wp_region_held_drew (S := fun V => Row V (w.heap.size) 25 [.int .i64 rs, .int .i64 rf, .int .i64 rl, .int .i64 ra, .int .i64 rb] ∧ Below w.heap.size w V) (by kernel_rfl) ?_ (fun hHeld => ?_)
 · exact ⟨(HS1.out.1).drew, (HS1.out.2).drew⟩
 refine tk 0 7 ?_ rfl (by kernel_rfl) (fun _ _ _ h => h) (by kernel_rfl) ?_ hHeld ?_
 rotate_left
 · intro w1 hSw; (try dsimp only at hSw); go_simp <;> with_reducible rfl
 try simp only [zz]
 refine tk 1 8 ?_ rfl (by kernel_rfl) (fun _ _ _ h => h) (by kernel_rfl) ?_ hHeld ?_
 rotate_left
 · intro w1 hSw; (try dsimp only at hSw); have cc := (hSw.1).cell 1; simp only [List.getElem?_cons_succ, List.getElem?_cons_zero] at cc; go_simp <;> with_reducible rfl
 try simp only [zz]
 refine tk 2 9 ?_ rfl (by kernel_rfl) (fun _ _ _ h => h) (by kernel_rfl) ?_ hHeld ?_
 rotate_left
 · intro w1 hSw; (try dsimp only at hSw); go_simp <;> with_reducible rfl
 try simp only [zz]
 refine tk 3 10 ?_ rfl (by kernel_rfl) (fun _ _ _ h => h) (by kernel_rfl) ?_ hHeld ?_
 rotate_left
 · intro w1 hSw; (try dsimp only at hSw); go_simp <;> with_reducible rfl
 try simp only [zz]
 refine tk 4 11 ?_ rfl (by kernel_rfl) (fun _ _ _ h => h) (by kernel_rfl) ?_ hHeld ?_
 rotate_left
 · intro w1 hSw; (try dsimp only at hSw); have cc := (hSw.1).cell 1; simp only [List.getElem?_cons_succ, List.getElem?_cons_zero] at cc; go_simp <;> with_reducible rfl
 try simp only [zz]
 refine tk 5 12 ?_ rfl (by kernel_rfl) (fun _ _ _ h => h) (by kernel_rfl) ?_ hHeld ?_
 rotate_left
 · intro w1 hSw; (try dsimp only at hSw); go_simp <;> with_reducible rfl
 try simp only [zz]
 refine tk 6 13 ?_ rfl (by kernel_rfl) (fun _ _ _ h => h) (by kernel_rfl) ?_ hHeld ?_
 rotate_left
 · intro w1 hSw; (try dsimp only at hSw); go_simp <;> with_reducible rfl
 try simp only [zz]
 refine tk 7 14 ?_ rfl (by kernel_rfl) (fun _ _ _ h => h) (by kernel_rfl) ?_ hHeld ?_
 rotate_left
 · intro w1 hSw; (try dsimp only at hSw); have cc := (hSw.1).cell 0; simp only [List.getElem?_cons_succ, List.getElem?_cons_zero] at cc; go_simp <;> with_reducible rfl
 try simp only [zz]
 refine tk 8 15 ?_ rfl (by kernel_rfl) (fun _ _ _ h => h) (by kernel_rfl) ?_ hHeld ?_
 rotate_left
 · intro w1 hSw; (try dsimp only at hSw); go_simp <;> with_reducible rfl
 try simp only [zz]
 refine tk 9 16 ?_ rfl (by kernel_rfl) (fun _ _ _ h => h) (by kernel_rfl) ?_ hHeld ?_
 rotate_left
 · intro w1 hSw; (try dsimp only at hSw); go_simp <;> with_reducible rfl
 try simp only [zz]
 refine st1 10 (by kernel_rfl) rfl (fun K hK => ?_)
 go_simp
 go_at_call 125
 refine (HN.out _).mono ?_
 rintro e v10 ⟨rfl, rfl⟩
 try go_simp
 refine hK.out _ _ ?_ (fun hHeld => ?_)
 · exact hHeld
 clear hK K
 try simp only [zz]
 refine tk 11 18 ?_ rfl (by kernel_rfl) (fun _ _ _ h => h) (by kernel_rfl) ?_ hHeld ?_
 rotate_left
 · intro w1 hSw; (try dsimp only at hSw); go_simp <;> with_reducible rfl
 try simp only [zz]
 refine tk 12 19 ?_ rfl (by kernel_rfl) (fun _ _ _ h => h) (by kernel_rfl) ?_ hHeld ?_
 rotate_left
 · intro w1 hSw; (try dsimp only at hSw); go_simp <;> with_reducible rfl
 try simp only [zz]
 refine tk 13 6 ?_ rfl (by kernel_rfl) (fun _ _ _ h => h) (by kernel_rfl) ?_ hHeld ?_
 rotate_left
 · intro w1 hSw; (try dsimp only at hSw); go_simp <;> with_reducible rfl
 try simp only [zz]
 refine wpAnyH_done (by kernel_rfl) ?_ _
 go_wp2_with fail
 all_goals go_ret
 all_goals exact ⟨ret_int (by have := HF.out; omega), hHeld.2⟩
end Go.Proofs.YtaeebedchbkniaaGreatDoor
