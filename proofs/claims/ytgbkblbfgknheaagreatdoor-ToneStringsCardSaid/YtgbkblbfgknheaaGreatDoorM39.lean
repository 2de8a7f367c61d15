import Derived.Test.YtgbkblbfgknheaaGreatDoorM18
namespace Go.Proofs.YtgbkblbfgknheaaGreatDoor
set_option linter.all false
open Go.RowKit Go.Fl
set_option maxRecDepth 100000 in
set_option maxHeartbeats 1000000 in
theorem noisyT_ok (rs rf rl ra rb a b c d x y t E : Int) (w : World) (hE : E = firstI [recE rs rf rl ra rb, sigE a b c d x y, whenI (rangeB t 0 1000) 3]) (h0 : E = 0) (n Q by0 p q : Int) (bn : n.natAbs ≤ 1000000000) (bb : 0 ≤ by0 ∧ by0 ≤ 100000000) (hby : by0 = 2 * t * (max a (-a) + max b (-b))) (ht : 0 ≤ t ∧ t ≤ 1000) (ha : a.natAbs ≤ 10000) (hb : b.natAbs ≤ 10000) (HN : ∀ W, Calls Tryz.prog 82 #[.agg #[.int .i64 a, .int .i64 b, .int .i64 c, .int .i64 d, .int .i64 x, .int .i64 y]] W fun e w' => e = .returned (.agg #[.int .i64 n, .int .i64 Q]) ∧ Below W.heap.size W w') (HP : ∀ W, Calls Tryz.prog 84 #[.agg #[.int .i64 rs, .int .i64 rf, .int .i64 rl, .int .i64 ra, .int .i64 rb], .agg #[.int .i64 (n - by0), .int .i64 Q]] W fun e w' => e = .returned (.int .i64 p) ∧ Below W.heap.size W w') (HQ : ∀ W, Calls Tryz.prog 84 #[.agg #[.int .i64 rs, .int .i64 rf, .int .i64 rl, .int .i64 ra, .int .i64 rb], .agg #[.int .i64 (n + by0), .int .i64 Q]] W fun e w' => e = .returned (.int .i64 q) ∧ Below W.heap.size W w') : Calls Tryz.prog 31 #[.agg #[.int .i64 rs, .int .i64 rf, .int .i64 rl, .int .i64 ra, .int .i64 rb], .agg #[.int .i64 a, .int .i64 b, .int .i64 c, .int .i64 d, .int .i64 x, .int .i64 y], .int .i64 t] w fun e w' => e = .returned (.tuple #[.agg #[.int .i64 p, .int .i64 q], .int .i64 0]) ∧ Below w.heap.size w w' := by
 have HN := Lib.hid HN; have HP := Lib.hid HP; have HQ := Lib.hid HQ
 have HC1 : Hid (∀ W, Calls Tryz.prog 75 #[.agg #[.int .i64 rs, .int .i64 rf, .int .i64 rl, .int .i64 ra, .int .i64 rb]] W fun e w' => e = .returned (.int .i64 (recE rs rf rl ra rb)) ∧ Below W.heap.size W w') := fun W => checkReceiver_any rs rf rl ra rb W
 have HC2 : Hid (∀ W, Calls Tryz.prog 62 #[.agg #[.int .i64 a, .int .i64 b, .int .i64 c, .int .i64 d, .int .i64 x, .int .i64 y]] W fun e w' => e = .returned (.int .i64 (sigE a b c d x y)) ∧ Below W.heap.size W w') := fun W => checkSignal_any a b c d x y W
 have HC3 : Hid (∀ W, Calls Tryz.prog 77 #[.int .i64 t, .int .i64 0, .int .i64 1000] W fun e w' => e = .returned (.int .i64 (whenI (rangeB t 0 1000) 3)) ∧ W = w') := fun W => between_any t 0 1000 W
 obtain ⟨E1, hE1⟩ : ∃ E1, E1 = recE rs rf rl ra rb := ⟨_, rfl⟩
 obtain ⟨E2, hE2⟩ : ∃ E2, E2 = sigE a b c d x y := ⟨_, rfl⟩
 obtain ⟨E3, hE3⟩ : ∃ E3, E3 = whenI (rangeB t 0 1000) 3 := ⟨_, rfl⟩
 rw [← hE1] at HC1 hE
 rw [← hE2] at HC2 hE
 rw [← hE3] at HC3 hE
 have HE := Lib.hid hE
 have hne : (E == 0) = true := by simpa using h0
 have hne2 : (E != 0) = false := by simpa using h0
 clear hE hE1 hE2 hE3 h0
 obtain ⟨aa, haa⟩ : ∃ aa, aa = max a (-a) := ⟨_, rfl⟩
 obtain ⟨ab, hab⟩ : ∃ ab, ab = max b (-b) := ⟨_, rfl⟩
 rw [← haa, ← hab] at hby
 have ka : 0 ≤ aa ∧ aa ≤ 10000 := by omega
 have kb : 0 ≤ ab ∧ ab ≤ 10000 := by omega
 have HA : Hid (∀ W, Calls Tryz.prog 83 #[.int .i64 a] W fun e w' => e = .returned (.int .i64 aa) ∧ W = w') := fun W => (absolute_any a W (by unfold Bd; omega)).mono fun e w' h => ⟨by rw [h.1, haa], h.2.symm⟩
 have HAB : Hid (∀ W, Calls Tryz.prog 83 #[.int .i64 b] W fun e w' => e = .returned (.int .i64 ab) ∧ W = w') := fun W => (absolute_any b W (by unfold Bd; omega)).mono fun e w' h => ⟨by rw [h.1, hab], h.2.symm⟩
 have e1 : IntKind.i64.wrap (2 * t) = 2 * t := IntWalk.i64_in _ (by omega)
 have e2 : IntKind.i64.wrap (aa + ab) = aa + ab := IntWalk.i64_in _ (by omega)
 have e3 : IntKind.i64.wrap (2 * t * (aa + ab)) = by0 := by rw [← hby]; exact IntWalk.i64_in _ (by omega)
 have e4 : IntKind.i64.wrap (n - by0) = n - by0 := IntWalk.i64_in _ (by omega)
 have e5 : IntKind.i64.wrap (n + by0) = n + by0 := IntWalk.i64_in _ (by omega)
 clear bn bb hby ht ha hb haa hab ka kb
 go_enter Tryz.func31, Tryz.ntmps31
 go_upto_region 1 with fail
 refine genT (fun V => Row V (w.heap.size) 74 [.int .i64 rs, .int .i64 rf, .int .i64 rl, .int .i64 ra, .int .i64 rb] ∧ Row V (w.heap.size + 1) 50 [.int .i64 a, .int .i64 b, .int .i64 c, .int .i64 d, .int .i64 x, .int .i64 y] ∧ Row V (w.heap.size + 1 + 1) 61 [.int .i64 0, .int .i64 0] ∧ Below w.heap.size w V) ⟨(Row.alloc (Row.alloc (rowAt _ _ (by first | rfl | simp only [World.size_alloc])) _) _), (Row.alloc (rowAt _ _ (by first | rfl | simp only [World.size_alloc])) _), (rowAt _ _ (by first | rfl | simp only [World.size_alloc])), ((((Below.refl _ _).alloc (by first | exact Nat.le_refl _ | (simp only [World.size_alloc]; omega)) _).alloc (by first | exact Nat.le_refl _ | (simp only [World.size_alloc]; omega)) _).alloc (by first | exact Nat.le_refl _ | (simp only [World.size_alloc]; omega)) _)⟩ ?_
 intro W1 s1
 have HS1 : Hid (Row W1 (w.heap.size) 74 [.int .i64 rs, .int .i64 rf, .int .i64 rl, .int .i64 ra, .int .i64 rb] ∧ Row W1 (w.heap.size + 1) 50 [.int .i64 a, .int .i64 b, .int .i64 c, .int .i64 d, .int .i64 x, .int .i64 y] ∧ RowN W1 (w.heap.size + 1 + 1) 61 2 ∧ Below w.heap.size w W1) := ⟨s1.1, s1.2.1, ⟨_, rfl, s1.2.2.1⟩, s1.2.2.2⟩
 clear s1
 refine wp_region_held_drew (S := fun V => Row V (w.heap.size) 74 [.int .i64 rs, .int .i64 rf, .int .i64 rl, .int .i64 ra, .int .i64 rb] ∧ Row V (w.heap.size + 1) 50 [.int .i64 a, .int .i64 b, .int .i64 c, .int .i64 d, .int .i64 x, .int .i64 y] ∧ RowN V (w.heap.size + 1 + 1) 61 2 ∧ Below w.heap.size w V) (by kernel_rfl) ?_ (fun hHeld => ?_)
 · exact ⟨(HS1.out.1).drew, (HS1.out.2.1).drew, (HS1.out.2.2.1).drew, (HS1.out.2.2.2).drew⟩
 refine tk 0 11 (.agg #[.int .i64 rs, .int .i64 rf, .int .i64 rl, .int .i64 ra, .int .i64 rb]) rfl (by kernel_rfl) (fun _ _ _ h => h) (by kernel_rfl) (fun V hV => ex_rowT 74 _ rfl (w.heap.size) rfl 74 [.int .i64 rs, .int .i64 rf, .int .i64 rl, .int .i64 ra, .int .i64 rb] _ Tryz.underlying74 rfl (by kernel_rfl) (hV.1)) hHeld ?_
 try simp only [zz]
 refine tk 2 13 (.agg #[.int .i64 a, .int .i64 b, .int .i64 c, .int .i64 d, .int .i64 x, .int .i64 y]) rfl (by kernel_rfl) (fun _ _ _ h => h) (by kernel_rfl) (fun V hV => ex_rowT 50 _ rfl (w.heap.size + 1) rfl 50 [.int .i64 a, .int .i64 b, .int .i64 c, .int .i64 d, .int .i64 x, .int .i64 y] _ Tryz.underlying50 rfl (by kernel_rfl) (hV.2.1)) hHeld ?_
 try simp only [zz]
 refine tk 4 15 ?_ rfl (by kernel_rfl) (fun _ _ _ h => h) (by kernel_rfl) ?_ hHeld ?_
 rotate_left
 · intro w1 hSw; (try dsimp only at hSw); go_simp <;> with_reducible rfl
 try simp only [zz]
 refine st1 1 (by kernel_rfl) rfl (fun K hK => ?_)
 go_simp
 go_at_call 75
 refine (HC1.out _).mono ?_
 rintro e v1 ⟨rfl, hb1⟩
 try go_simp
 refine hK.out _ _ ?_ (fun hHeld => ?_)
 · exact ⟨(hHeld.1).old hb1, (hHeld.2.1).old hb1, (hHeld.2.2.1).old hb1, (hHeld.2.2.2).trans ((hb1).mono (hHeld.2.2.2).size)⟩
 clear hK K
 try simp only [zz]
 refine st1 3 (by kernel_rfl) rfl (fun K hK => ?_)
 go_simp
 go_at_call 62
 refine (HC2.out _).mono ?_
 rintro e v3 ⟨rfl, hb3⟩
 try go_simp
 refine hK.out _ _ ?_ (fun hHeld => ?_)
 · exact ⟨(hHeld.1).old hb3, (hHeld.2.1).old hb3, (hHeld.2.2.1).old hb3, (hHeld.2.2.2).trans ((hb3).mono (hHeld.2.2.2).size)⟩
 clear hK K
 try simp only [zz]
 refine st1 5 (by kernel_rfl) rfl (fun K hK => ?_)
 go_simp
 go_at_call 77
 refine (HC3.out _).mono ?_
 rintro e v5 ⟨rfl, rfl⟩
 try go_simp
 refine hK.out _ _ ?_ (fun hHeld => ?_)
 · exact hHeld
 clear hK K
 try simp only [zz]
 refine st1 6 (by kernel_rfl) rfl (fun K hK => ?_)
 go_simp
 refine hK.out _ _ ?_ (fun hHeld => ?_)
 · exact ⟨(hHeld.1).old ((Below.refl _ _).alloc (Nat.le_refl _) _), (hHeld.2.1).old ((Below.refl _ _).alloc (Nat.le_refl _) _), (hHeld.2.2.1).old ((Below.refl _ _).alloc (Nat.le_refl _) _), (hHeld.2.2.2).trans ((((Below.refl _ _).alloc (Nat.le_refl _) _)).mono (hHeld.2.2.2).size)⟩
 clear hK K
 try simp only [zz]
 refine st1 7 (by kernel_rfl) rfl (fun K hK => ?_)
 go_simp
 go_at_call 74
 refine (firstV_any _ _ _ [E1, E2, E3] _ ?_ rfl (by simp)).mono ?_
 · exact Rd.newT (t := 25)
 rintro e v13 ⟨rfl, rfl⟩
 try go_simp
 refine hK.out _ _ ?_ (fun hHeld => ?_)
 · exact hHeld
 clear hK K
 try simp only [zz]
 refine tk 8 8 ?_ rfl (by kernel_rfl) (fun _ _ _ h => h) (by kernel_rfl) ?_ hHeld ?_
 rotate_left
 · intro w1 hSw; (try dsimp only at hSw); go_simp <;> with_reducible rfl
 try simp only [zz]
 refine wpAnyH_done (by kernel_rfl) ?_ _
 rw [← HE.out]
 clear HC1 HC2 HC3 HE
 have HS4 := Lib.hid hHeld
 clear hHeld
 go_upto_region 5 with (first
  | (refine wpList_load_row rfl 74 _ rfl (w.heap.size) rfl 74 #[.int .i64 rs, .int .i64 rf, .int .i64 rl, .int .i64 ra, .int .i64 rb] (0, 0) _ HS4.out.1 Tryz.underlying74 rfl ?_ ?_; (kernel_rfl))
  | (refine wpList_load_row rfl 50 _ rfl (w.heap.size + 1) rfl 50 #[.int .i64 a, .int .i64 b, .int .i64 c, .int .i64 d, .int .i64 x, .int .i64 y] (0, 0) _ HS4.out.2.1 Tryz.underlying50 rfl ?_ ?_; (kernel_rfl))
  | (go_at_call 82; refine (HN.out _).mono ?_; rintro e v4 ⟨rfl, hb4⟩; have HS5 : Hid (Row v4 (w.heap.size) 74 [.int .i64 rs, .int .i64 rf, .int .i64 rl, .int .i64 ra, .int .i64 rb] ∧ Row v4 (w.heap.size + 1) 50 [.int .i64 a, .int .i64 b, .int .i64 c, .int .i64 d, .int .i64 x, .int .i64 y] ∧ RowN v4 (w.heap.size + 1 + 1) 61 2 ∧ Below w.heap.size w v4) := ⟨(HS4.out.1).old hb4, (HS4.out.2.1).old hb4, (HS4.out.2.2.1).old hb4, (HS4.out.2.2.2).trans (hb4.mono (HS4.out.2.2.2).size)⟩; clear hb4)
  | (refine wpList_store_row rfl 167 _ _ rfl (v4.heap.size) #[.int .i64 n, .int .i64 Q] rfl rfl 167 _ (Row.new v4 167 [.int .i64 0, .int .i64 0]) ?_ ?_ ?_ ?_; (kernel_rfl); (rfl); (simp [Value.oneCell'])))
 have hbn : Below v4.heap.size v4 ((v4.alloc (.cells #[.int .i64 0, .int .i64 0] 167)).setRow v4.heap.size #[.int .i64 n, .int .i64 Q]) := Below.setRow ((Below.refl _ _).alloc (Nat.le_refl _) _) (Nat.le_refl _) _
 have hz1 : w.heap.size + 1 + 1 < v4.heap.size := (by obtain ⟨vs, _, h⟩ := HS5.out.2.2.1; exact h.lt)
 refine genT (fun V => Row V (w.heap.size) 74 [.int .i64 rs, .int .i64 rf, .int .i64 rl, .int .i64 ra, .int .i64 rb] ∧ Row V (w.heap.size + 1) 50 [.int .i64 a, .int .i64 b, .int .i64 c, .int .i64 d, .int .i64 x, .int .i64 y] ∧ Row V (v4.heap.size) 167 [.int .i64 n, .int .i64 Q] ∧ RowN V (w.heap.size + 1 + 1) 61 2 ∧ Below w.heap.size w V) ⟨(HS5.out.1).old hbn, (HS5.out.2.1).old hbn, (Row.new v4 167 [.int .i64 0, .int .i64 0]).setRow _, (HS5.out.2.2.1).old hbn, (HS5.out.2.2.2).trans (hbn.mono (HS5.out.2.2.2).size)⟩ ?_
 clear hbn HS5 HS4 HN
 intro W6 s6
 have HS6 := Lib.hid s6
 clear s6
 refine wp_region_held_drew (S := fun V => Row V (w.heap.size) 74 [.int .i64 rs, .int .i64 rf, .int .i64 rl, .int .i64 ra, .int .i64 rb] ∧ Row V (w.heap.size + 1) 50 [.int .i64 a, .int .i64 b, .int .i64 c, .int .i64 d, .int .i64 x, .int .i64 y] ∧ Row V (v4.heap.size) 167 [.int .i64 n, .int .i64 Q] ∧ RowN V (w.heap.size + 1 + 1) 61 2 ∧ Below w.heap.size w V) (by kernel_rfl) ?_ (fun hHeld => ?_)
 · exact ⟨(HS6.out.1).drew, (HS6.out.2.1).drew, (HS6.out.2.2.1).drew, (HS6.out.2.2.2.1).drew, (HS6.out.2.2.2.2).drew⟩
 refine tk 0 25 ?_ rfl (by kernel_rfl) (fun _ _ _ h => h) (by kernel_rfl) ?_ hHeld ?_
 rotate_left
 · intro w1 hSw; (try dsimp only at hSw); go_simp <;> with_reducible rfl
 try simp only [zz]
 refine tk 1 26 ?_ rfl (by kernel_rfl) (fun _ _ _ h => h) (by kernel_rfl) ?_ hHeld ?_
 rotate_left
 · intro w1 hSw; (try dsimp only at hSw); go_simp <;> with_reducible rfl
 try simp only [zz]
 refine tk 2 27 ?_ rfl (by kernel_rfl) (fun _ _ _ h => h) (by kernel_rfl) ?_ hHeld ?_
 rotate_left
 · intro w1 hSw; (try dsimp only at hSw); go_simp <;> with_reducible rfl
 try simp only [zz]
 refine tk 3 28 ?_ rfl (by kernel_rfl) (fun _ _ _ h => h) (by kernel_rfl) ?_ hHeld ?_
 rotate_left
 · intro w1 hSw; (try dsimp only at hSw); go_simp <;> with_reducible rfl
 try simp only [zz]
 refine tk 4 29 ?_ rfl (by kernel_rfl) (fun _ _ _ h => h) (by kernel_rfl) ?_ hHeld ?_
 rotate_left
 · intro w1 hSw; (try dsimp only at hSw); have cc := (hSw.2.1).cell 0; simp only [List.getElem?_cons_succ, List.getElem?_cons_zero] at cc; go_simp <;> with_reducible rfl
 try simp only [zz]
 refine tk 6 31 ?_ rfl (by kernel_rfl) (fun _ _ _ h => h) (by kernel_rfl) ?_ hHeld ?_
 rotate_left
 · intro w1 hSw; (try dsimp only at hSw); go_simp <;> with_reducible rfl
 try simp only [zz]
 refine tk 7 32 ?_ rfl (by kernel_rfl) (fun _ _ _ h => h) (by kernel_rfl) ?_ hHeld ?_
 rotate_left
 · intro w1 hSw; (try dsimp only at hSw); go_simp <;> with_reducible rfl
 try simp only [zz]
 refine tk 8 33 ?_ rfl (by kernel_rfl) (fun _ _ _ h => h) (by kernel_rfl) ?_ hHeld ?_
 rotate_left
 · intro w1 hSw; (try dsimp only at hSw); have cc := (hSw.2.1).cell 1; simp only [List.getElem?_cons_succ, List.getElem?_cons_zero] at cc; go_simp <;> with_reducible rfl
 try simp only [zz]
 refine st1 5 (by kernel_rfl) rfl (fun K hK => ?_)
 go_simp
 go_at_call 83
 refine (HA.out _).mono ?_
 rintro e v5 ⟨rfl, rfl⟩
 try go_simp
 refine hK.out _ _ ?_ (fun hHeld => ?_)
 · exact hHeld
 clear hK K
 try simp only [zz]
 refine st1 9 (by kernel_rfl) rfl (fun K hK => ?_)
 go_simp
 go_at_call 83
 refine (HAB.out _).mono ?_
 rintro e v9 ⟨rfl, rfl⟩
 try go_simp
 refine hK.out _ _ ?_ (fun hHeld => ?_)
 · exact hHeld
 clear hK K
 try simp only [zz]
 refine tk 10 35 ?_ rfl (by kernel_rfl) (fun _ _ _ h => h) (by kernel_rfl) ?_ hHeld ?_
 rotate_left
 · intro w1 hSw; (try dsimp only at hSw); go_simp <;> with_reducible rfl
 try simp only [zz]
 refine tk 11 36 ?_ rfl (by kernel_rfl) (fun _ _ _ h => h) (by kernel_rfl) ?_ hHeld ?_
 rotate_left
 · intro w1 hSw; (try dsimp only at hSw); go_simp <;> with_reducible rfl
 try simp only [zz]
 refine tk 12 10 ?_ rfl (by kernel_rfl) (fun _ _ _ h => h) (by kernel_rfl) ?_ hHeld ?_
 rotate_left
 · intro w1 hSw; (try dsimp only at hSw); go_simp <;> with_reducible rfl
 try simp only [zz]
 refine wpAnyH_done (by kernel_rfl) ?_ _
 have HS7 := Lib.hid hHeld
 clear hHeld
 go_upto_region 6 with fail
 refine wp_region_held_drew (S := fun V => Row V (w.heap.size) 74 [.int .i64 rs, .int .i64 rf, .int .i64 rl, .int .i64 ra, .int .i64 rb] ∧ Row V (w.heap.size + 1) 50 [.int .i64 a, .int .i64 b, .int .i64 c, .int .i64 d, .int .i64 x, .int .i64 y] ∧ Row V (v4.heap.size) 167 [.int .i64 n, .int .i64 Q] ∧ RowN V (w.heap.size + 1 + 1) 61 2 ∧ Below w.heap.size w V) (by kernel_rfl) ?_ (fun hHeld => ?_)
 · exact ⟨(HS7.out.1).drew, (HS7.out.2.1).drew, (HS7.out.2.2.1).drew, (HS7.out.2.2.2.1).drew, (HS7.out.2.2.2.2).drew⟩
 refine tk 0 37 (.agg #[.int .i64 rs, .int .i64 rf, .int .i64 rl, .int .i64 ra, .int .i64 rb]) rfl (by kernel_rfl) (fun _ _ _ h => h) (by kernel_rfl) (fun V hV => ex_rowT 74 _ rfl (w.heap.size) rfl 74 [.int .i64 rs, .int .i64 rf, .int .i64 rl, .int .i64 ra, .int .i64 rb] _ Tryz.underlying74 rfl (by kernel_rfl) (hV.1)) hHeld ?_
 try simp only [zz]
 refine tk 1 38 ?_ rfl (by kernel_rfl) (fun _ _ _ h => h) (by kernel_rfl) ?_ hHeld ?_
 rotate_left
 · intro w1 hSw; (try dsimp only at hSw); go_simp <;> with_reducible rfl
 try simp only [zz]
 refine tk 2 39 ?_ rfl (by kernel_rfl) (fun _ _ _ h => h) (by kernel_rfl) ?_ hHeld ?_
 rotate_left
 · intro w1 hSw; (try dsimp only at hSw); have cc := (hSw.2.2.1).cell 0; simp only [List.getElem?_cons_succ, List.getElem?_cons_zero] at cc; go_simp <;> with_reducible rfl
 try simp only [zz]
 refine tk 3 40 ?_ rfl (by kernel_rfl) (fun _ _ _ h => h) (by kernel_rfl) ?_ hHeld ?_
 rotate_left
 · intro w1 hSw; (try dsimp only at hSw); go_simp <;> with_reducible rfl
 try simp only [zz]
 refine tk 4 41 ?_ rfl (by kernel_rfl) (fun _ _ _ h => h) (by kernel_rfl) ?_ hHeld ?_
 rotate_left
 · intro w1 hSw; (try dsimp only at hSw); go_simp <;> with_reducible rfl
 try simp only [zz]
 refine tk 5 42 ?_ rfl (by kernel_rfl) (fun _ _ _ h => h) (by kernel_rfl) ?_ hHeld ?_
 rotate_left
 · intro w1 hSw; (try dsimp only at hSw); go_simp <;> with_reducible rfl
 try simp only [zz]
 refine tk 6 43 ?_ rfl (by kernel_rfl) (fun _ _ _ h => h) (by kernel_rfl) ?_ hHeld ?_
 rotate_left
 · intro w1 hSw; (try dsimp only at hSw); have cc := (hSw.2.2.1).cell 1; simp only [List.getElem?_cons_succ, List.getElem?_cons_zero] at cc; go_simp <;> with_reducible rfl
 try simp only [zz]
 refine tk 7 44 ?_ rfl (by kernel_rfl) (fun _ _ _ h => h) (by kernel_rfl) ?_ hHeld ?_
 rotate_left
 · intro w1 hSw; (try dsimp only at hSw); go_simp <;> with_reducible rfl
 try simp only [zz]
 refine tk 9 46 (.agg #[.int .i64 rs, .int .i64 rf, .int .i64 rl, .int .i64 ra, .int .i64 rb]) rfl (by kernel_rfl) (fun _ _ _ h => h) (by kernel_rfl) (fun V hV => ex_rowT 74 _ rfl (w.heap.size) rfl 74 [.int .i64 rs, .int .i64 rf, .int .i64 rl, .int .i64 ra, .int .i64 rb] _ Tryz.underlying74 rfl (by kernel_rfl) (hV.1)) hHeld ?_
 try simp only [zz]
 refine tk 10 47 ?_ rfl (by kernel_rfl) (fun _ _ _ h => h) (by kernel_rfl) ?_ hHeld ?_
 rotate_left
 · intro w1 hSw; (try dsimp only at hSw); go_simp <;> with_reducible rfl
 try simp only [zz]
 refine tk 11 48 ?_ rfl (by kernel_rfl) (fun _ _ _ h => h) (by kernel_rfl) ?_ hHeld ?_
 rotate_left
 · intro w1 hSw; (try dsimp only at hSw); have cc := (hSw.2.2.1).cell 0; simp only [List.getElem?_cons_succ, List.getElem?_cons_zero] at cc; go_simp <;> with_reducible rfl
 try simp only [zz]
 refine tk 12 49 ?_ rfl (by kernel_rfl) (fun _ _ _ h => h) (by kernel_rfl) ?_ hHeld ?_
 rotate_left
 · intro w1 hSw; (try dsimp only at hSw); go_simp <;> with_reducible rfl
 try simp only [zz]
 refine tk 13 50 ?_ rfl (by kernel_rfl) (fun _ _ _ h => h) (by kernel_rfl) ?_ hHeld ?_
 rotate_left
 · intro w1 hSw; (try dsimp only at hSw); go_simp <;> with_reducible rfl
 try simp only [zz]
 refine tk 14 51 ?_ rfl (by kernel_rfl) (fun _ _ _ h => h) (by kernel_rfl) ?_ hHeld ?_
 rotate_left
 · intro w1 hSw; (try dsimp only at hSw); go_simp <;> with_reducible rfl
 try simp only [zz]
 refine tk 15 52 ?_ rfl (by kernel_rfl) (fun _ _ _ h => h) (by kernel_rfl) ?_ hHeld ?_
 rotate_left
 · intro w1 hSw; (try dsimp only at hSw); have cc := (hSw.2.2.1).cell 1; simp only [List.getElem?_cons_succ, List.getElem?_cons_zero] at cc; go_simp <;> with_reducible rfl
 try simp only [zz]
 refine tk 16 53 ?_ rfl (by kernel_rfl) (fun _ _ _ h => h) (by kernel_rfl) ?_ hHeld ?_
 rotate_left
 · intro w1 hSw; (try dsimp only at hSw); go_simp <;> with_reducible rfl
 try simp only [zz]
 refine st1 8 (by kernel_rfl) rfl (fun K hK => ?_)
 go_simp
 go_at_call 84
 refine (HP.out _).mono ?_
 rintro e v8 ⟨rfl, hb8⟩
 try go_simp
 refine hK.out _ _ ?_ (fun hHeld => ?_)
 · exact ⟨(hHeld.1).old hb8, (hHeld.2.1).old hb8, (hHeld.2.2.1).old hb8, (hHeld.2.2.2.1).old hb8, (hHeld.2.2.2.2).trans ((hb8).mono (hHeld.2.2.2.2).size)⟩
 clear hK K
 try simp only [zz]
 refine st1 17 (by kernel_rfl) rfl (fun K hK => ?_)
 go_simp
 go_at_call 84
 refine (HQ.out _).mono ?_
 rintro e v17 ⟨rfl, hb17⟩
 try go_simp
 refine hK.out _ _ ?_ (fun hHeld => ?_)
 · exact ⟨(hHeld.1).old hb17, (hHeld.2.1).old hb17, (hHeld.2.2.1).old hb17, (hHeld.2.2.2.1).old hb17, (hHeld.2.2.2.2).trans ((hb17).mono (hHeld.2.2.2.2).size)⟩
 clear hK K
 try simp only [zz]
 refine tk 18 55 ?_ rfl (by kernel_rfl) (fun _ _ _ h => h) (by kernel_rfl) ?_ hHeld ?_
 rotate_left
 · intro w1 hSw; (try dsimp only at hSw); go_simp <;> with_reducible rfl
 try simp only [zz]
 refine st1 19 (by kernel_rfl) rfl (fun K hK => ?_)
 obtain ⟨vs, hvl, hvr⟩ := (hHeld.2.2.2.1)
 have hLast := hHeld
 refine step_store_row rfl 61 _ _ rfl (w.heap.size + 1 + 1) [.int .i64 p, .int .i64 q] rfl rfl 61 vs hvr (by kernel_rfl) hvl (by simp [Value.oneCell']) ?_
 refine hK.out _ _ ?_ (fun hHeld => ?_)
 · exact ⟨(hHeld.1).farRow (by omega) _, (hHeld.2.1).farRow (by omega) _, (hHeld.2.2.1).farRow (by omega) _, ⟨_, rfl, hvr.setRow _⟩, Below.setRow (hHeld.2.2.2.2) (by omega) _⟩
 clear hK K
 try simp only [zz]
 refine tk 20 7 ?_ rfl (by kernel_rfl) (fun _ _ _ h => h) (by kernel_rfl) ?_ hHeld ?_
 rotate_left
 · intro w1 hSw; (try dsimp only at hSw); go_simp <;> with_reducible rfl
 try simp only [zz]
 refine wpAnyH_done (by kernel_rfl) ?_ _
 go_wp2_with fail
 refine bodyPost_ret (results_rt rfl _ _ (w.heap.size + 1 + 1) 61 #[.int .i64 p, .int .i64 q] (0, 0) _ rfl (hvr.setRow [.int .i64 p, .int .i64 q]) Tryz.underlying61 rfl (by kernel_rfl)) rfl ⟨rfl, Below.setRow hLast.2.2.2.2 (by omega) _⟩
end Go.Proofs.YtgbkblbfgknheaaGreatDoor
