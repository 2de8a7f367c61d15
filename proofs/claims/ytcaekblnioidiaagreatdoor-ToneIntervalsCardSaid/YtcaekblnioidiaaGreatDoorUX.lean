import Derived.Test.YtcaekblnioidiaaGreatDoorM21
import Derived.Test.YtcaekblnioidiaaGreatDoorM43
namespace Go.Proofs.YtcaekblnioidiaaGreatDoor
set_option linter.all false
open Go.RowKit Go.Fl
set_option linter.unusedVariables false
set_option linter.unusedSimpArgs false

theorem fI4b {a b c d : Int} (h : firstI [a, b, c, d] = 0) : a = 0 ∧ b = 0 ∧ c = 0 ∧ d = 0 := by
 by_cases ha : a = 0
 · subst ha
   exact ⟨rfl, fI3 h⟩
 · rw [firstI, if_neg ha] at h; exact absurd h ha
theorem range_good {n low high : Int} (h : whenI (rangeB n low high) 3 = 0) : low ≤ n ∧ n ≤ high := by
 have h1 := whenZ (by decide) h
 unfold rangeB at h1
 simp only [Bool.or_eq_false_iff, decide_eq_false_iff_not] at h1
 omega
theorem iv_good {lo hi low high : Int} (h : ivE lo hi low high = 0) : (low ≤ lo ∧ lo ≤ high) ∧ (low ≤ hi ∧ hi ≤ high) ∧ lo ≤ hi := by
 obtain ⟨h1, h2, h3⟩ := fI3 h
 have h3 := whenZ (by decide) h3
 simp only [decide_eq_false_iff_not] at h3
 exact ⟨range_good h1, range_good h2, by omega⟩
theorem rec_good {rs rf rl ra rb : Int} (h : recE rs rf rl ra rb = 0) : RecG rs rf rl ra rb := by
 obtain ⟨h1, h2, h3, h4⟩ := fI4b h
 have h4 := iv_good h4
 exact ⟨range_good h1, range_good h2, range_good h3, h4.1, h4.2.1, h4.2.2⟩
set_option maxRecDepth 100000 in
set_option maxHeartbeats 1000000 in
theorem lostT_bad (rs rf rl ra rb a b c d x y lo hi E : Int) (w : World) (hE : E = firstI [recE rs rf rl ra rb, sigE a b c d x y, ivE lo hi 0 1000]) (h0 : E ≠ 0) : Calls Tryz.prog 36 #[.agg #[.int .i64 rs, .int .i64 rf, .int .i64 rl, .int .i64 ra, .int .i64 rb], .agg #[.int .i64 a, .int .i64 b, .int .i64 c, .int .i64 d, .int .i64 x, .int .i64 y], .agg #[.int .i64 lo, .int .i64 hi]] w fun e w' => e = .returned (.tuple #[.agg #[.int .i64 0, .int .i64 0], .int .i64 E]) ∧ Below w.heap.size w w' := by
 have HC1 : Hid (∀ W, Calls Tryz.prog 93 #[.agg #[.int .i64 rs, .int .i64 rf, .int .i64 rl, .int .i64 ra, .int .i64 rb]] W fun e w' => e = .returned (.int .i64 (recE rs rf rl ra rb)) ∧ Below W.heap.size W w') := fun W => checkReceiver_any rs rf rl ra rb W
 have HC2 : Hid (∀ W, Calls Tryz.prog 20 #[.agg #[.int .i64 a, .int .i64 b, .int .i64 c, .int .i64 d, .int .i64 x, .int .i64 y]] W fun e w' => e = .returned (.int .i64 (sigE a b c d x y)) ∧ Below W.heap.size W w') := fun W => checkSignal_any a b c d x y W
 have HC3 : Hid (∀ W, Calls Tryz.prog 94 #[.agg #[.int .i64 lo, .int .i64 hi], .int .i64 0, .int .i64 1000] W fun e w' => e = .returned (.int .i64 (ivE lo hi 0 1000)) ∧ Below W.heap.size W w') := fun W => checkInterval_any lo hi 0 1000 W
 obtain ⟨E1, hE1⟩ : ∃ E1, E1 = recE rs rf rl ra rb := ⟨_, rfl⟩
 obtain ⟨E2, hE2⟩ : ∃ E2, E2 = sigE a b c d x y := ⟨_, rfl⟩
 obtain ⟨E3, hE3⟩ : ∃ E3, E3 = ivE lo hi 0 1000 := ⟨_, rfl⟩
 rw [← hE1] at HC1 hE
 rw [← hE2] at HC2 hE
 rw [← hE3] at HC3 hE
 have HE := Lib.hid hE
 have hne : (E == 0) = false := by simpa using h0
 have hne2 : (E != 0) = true := by simpa using h0
 clear hE hE1 hE2 hE3 h0
 go_enter Tryz.func36, Tryz.ntmps36
 go_upto_region 1 with fail
 refine genT (fun V => Row V (w.heap.size) 69 [.int .i64 rs, .int .i64 rf, .int .i64 rl, .int .i64 ra, .int .i64 rb] ∧ Row V (w.heap.size + 1) 32 [.int .i64 a, .int .i64 b, .int .i64 c, .int .i64 d, .int .i64 x, .int .i64 y] ∧ Row V (w.heap.size + 1 + 1) 62 [.int .i64 lo, .int .i64 hi] ∧ Row V (w.heap.size + 1 + 1 + 1) 62 [.int .i64 0, .int .i64 0] ∧ Below w.heap.size w V) ⟨(Row.alloc (Row.alloc (Row.alloc (rowAt _ _ (by first | rfl | simp only [World.size_alloc])) _) _) _), (Row.alloc (Row.alloc (rowAt _ _ (by first | rfl | simp only [World.size_alloc])) _) _), (Row.alloc (rowAt _ _ (by first | rfl | simp only [World.size_alloc])) _), (rowAt _ _ (by first | rfl | simp only [World.size_alloc])), (((((Below.refl _ _).alloc (by first | exact Nat.le_refl _ | (simp only [World.size_alloc]; omega)) _).alloc (by first | exact Nat.le_refl _ | (simp only [World.size_alloc]; omega)) _).alloc (by first | exact Nat.le_refl _ | (simp only [World.size_alloc]; omega)) _).alloc (by first | exact Nat.le_refl _ | (simp only [World.size_alloc]; omega)) _)⟩ ?_
 intro W1 s1
 have HS1 : Hid (Row W1 (w.heap.size) 69 [.int .i64 rs, .int .i64 rf, .int .i64 rl, .int .i64 ra, .int .i64 rb] ∧ Row W1 (w.heap.size + 1) 32 [.int .i64 a, .int .i64 b, .int .i64 c, .int .i64 d, .int .i64 x, .int .i64 y] ∧ Row W1 (w.heap.size + 1 + 1) 62 [.int .i64 lo, .int .i64 hi] ∧ RowN W1 (w.heap.size + 1 + 1 + 1) 62 2 ∧ Below w.heap.size w W1) := ⟨s1.1, s1.2.1, s1.2.2.1, ⟨_, rfl, s1.2.2.2.1⟩, s1.2.2.2.2⟩
 clear s1
 refine wp_region_held_drew (S := fun V => Row V (w.heap.size) 69 [.int .i64 rs, .int .i64 rf, .int .i64 rl, .int .i64 ra, .int .i64 rb] ∧ Row V (w.heap.size + 1) 32 [.int .i64 a, .int .i64 b, .int .i64 c, .int .i64 d, .int .i64 x, .int .i64 y] ∧ Row V (w.heap.size + 1 + 1) 62 [.int .i64 lo, .int .i64 hi] ∧ RowN V (w.heap.size + 1 + 1 + 1) 62 2 ∧ Below w.heap.size w V) (by kernel_rfl) ?_ (fun hHeld => ?_)
 · exact ⟨(HS1.out.1).drew, (HS1.out.2.1).drew, (HS1.out.2.2.1).drew, (HS1.out.2.2.2.1).drew, (HS1.out.2.2.2.2).drew⟩
 refine tk 0 11 (.agg #[.int .i64 rs, .int .i64 rf, .int .i64 rl, .int .i64 ra, .int .i64 rb]) rfl (by kernel_rfl) (fun _ _ _ h => h) (by kernel_rfl) (fun V hV => ex_rowT 69 _ rfl (w.heap.size) rfl 69 [.int .i64 rs, .int .i64 rf, .int .i64 rl, .int .i64 ra, .int .i64 rb] _ Tryz.underlying69 rfl (by kernel_rfl) (hV.1)) hHeld ?_
 try simp only [zz]
 refine tk 2 13 (.agg #[.int .i64 a, .int .i64 b, .int .i64 c, .int .i64 d, .int .i64 x, .int .i64 y]) rfl (by kernel_rfl) (fun _ _ _ h => h) (by kernel_rfl) (fun V hV => ex_rowT 32 _ rfl (w.heap.size + 1) rfl 32 [.int .i64 a, .int .i64 b, .int .i64 c, .int .i64 d, .int .i64 x, .int .i64 y] _ Tryz.underlying32 rfl (by kernel_rfl) (hV.2.1)) hHeld ?_
 try simp only [zz]
 refine tk 4 15 (.agg #[.int .i64 lo, .int .i64 hi]) rfl (by kernel_rfl) (fun _ _ _ h => h) (by kernel_rfl) (fun V hV => ex_rowT 62 _ rfl (w.heap.size + 1 + 1) rfl 62 [.int .i64 lo, .int .i64 hi] _ Tryz.underlying62 rfl (by kernel_rfl) (hV.2.2.1)) hHeld ?_
 try simp only [zz]
 refine st1 1 (by kernel_rfl) rfl (fun K hK => ?_)
 go_simp
 go_at_call 93
 refine (HC1.out _).mono ?_
 rintro e v1 ⟨rfl, hb1⟩
 try go_simp
 refine hK.out _ _ ?_ (fun hHeld => ?_)
 · exact ⟨(hHeld.1).old hb1, (hHeld.2.1).old hb1, (hHeld.2.2.1).old hb1, (hHeld.2.2.2.1).old hb1, (hHeld.2.2.2.2).trans ((hb1).mono (hHeld.2.2.2.2).size)⟩
 clear hK K
 try simp only [zz]
 refine st1 3 (by kernel_rfl) rfl (fun K hK => ?_)
 go_simp
 go_at_call 20
 refine (HC2.out _).mono ?_
 rintro e v3 ⟨rfl, hb3⟩
 try go_simp
 refine hK.out _ _ ?_ (fun hHeld => ?_)
 · exact ⟨(hHeld.1).old hb3, (hHeld.2.1).old hb3, (hHeld.2.2.1).old hb3, (hHeld.2.2.2.1).old hb3, (hHeld.2.2.2.2).trans ((hb3).mono (hHeld.2.2.2.2).size)⟩
 clear hK K
 try simp only [zz]
 refine st1 5 (by kernel_rfl) rfl (fun K hK => ?_)
 go_simp
 go_at_call 94
 refine (HC3.out _).mono ?_
 rintro e v5 ⟨rfl, hb5⟩
 try go_simp
 refine hK.out _ _ ?_ (fun hHeld => ?_)
 · exact ⟨(hHeld.1).old hb5, (hHeld.2.1).old hb5, (hHeld.2.2.1).old hb5, (hHeld.2.2.2.1).old hb5, (hHeld.2.2.2.2).trans ((hb5).mono (hHeld.2.2.2.2).size)⟩
 clear hK K
 try simp only [zz]
 refine st1 6 (by kernel_rfl) rfl (fun K hK => ?_)
 go_simp
 refine hK.out _ _ ?_ (fun hHeld => ?_)
 · exact ⟨(hHeld.1).old ((Below.refl _ _).alloc (Nat.le_refl _) _), (hHeld.2.1).old ((Below.refl _ _).alloc (Nat.le_refl _) _), (hHeld.2.2.1).old ((Below.refl _ _).alloc (Nat.le_refl _) _), (hHeld.2.2.2.1).old ((Below.refl _ _).alloc (Nat.le_refl _) _), (hHeld.2.2.2.2).trans ((((Below.refl _ _).alloc (Nat.le_refl _) _)).mono (hHeld.2.2.2.2).size)⟩
 clear hK K
 try simp only [zz]
 refine st1 7 (by kernel_rfl) rfl (fun K hK => ?_)
 go_simp
 go_at_call 80
 refine (firstV_any _ _ _ [E1, E2, E3] _ ?_ rfl (by simp)).mono ?_
 · exact Rd.newT (t := 29)
 rintro e v13 ⟨rfl, rfl⟩
 try go_simp
 refine hK.out _ _ ?_ (fun hHeld => ?_)
 · exact hHeld
 clear hK K
 try simp only [zz]
 refine tk 8 8 ?_ rfl (by kernel_rfl) (fun _ _ _ h => h) (by kernel_rfl) ?_ hHeld ?_
 rotate_left
 · intro w1 hSw; (try dsimp only at hSw); go_simp <;> with_reducible rfl
 try simp only [zz]
 refine wpAnyH_done (by kernel_rfl) ?_ _
 rw [← HE.out]
 clear HC1 HC2 HC3 HE
 obtain ⟨vs, hvl, hvr⟩ := hHeld.2.2.2.1
 have HB := Lib.hid hHeld.2.2.2.2
 clear hHeld
 go_wp2_with (refine wpList_store_row rfl 62 _ _ rfl (w.heap.size + 1 + 1 + 1) #[.int .i64 0, .int .i64 0] rfl rfl 62 _ hvr ?_ ?_ ?_ ?_; (kernel_rfl); (exact hvl); (simp [Value.oneCell']))
 refine bodyPost_ret (results_rt rfl _ _ (w.heap.size + 1 + 1 + 1) 62 #[.int .i64 0, .int .i64 0] (0, 0) _ rfl (hvr.setRow [.int .i64 0, .int .i64 0]) Tryz.underlying62 rfl (by kernel_rfl)) rfl ⟨rfl, Below.setRow HB.out (by omega) _⟩
set_option maxRecDepth 100000 in
set_option maxHeartbeats 1000000 in
theorem noisyT_bad (rs rf rl ra rb a b c d x y t E : Int) (w : World) (hE : E = firstI [recE rs rf rl ra rb, sigE a b c d x y, whenI (rangeB t 0 1000) 3]) (h0 : E ≠ 0) : Calls Tryz.prog 37 #[.agg #[.int .i64 rs, .int .i64 rf, .int .i64 rl, .int .i64 ra, .int .i64 rb], .agg #[.int .i64 a, .int .i64 b, .int .i64 c, .int .i64 d, .int .i64 x, .int .i64 y], .int .i64 t] w fun e w' => e = .returned (.tuple #[.agg #[.int .i64 0, .int .i64 0], .int .i64 E]) ∧ Below w.heap.size w w' := by
 have HC1 : Hid (∀ W, Calls Tryz.prog 93 #[.agg #[.int .i64 rs, .int .i64 rf, .int .i64 rl, .int .i64 ra, .int .i64 rb]] W fun e w' => e = .returned (.int .i64 (recE rs rf rl ra rb)) ∧ Below W.heap.size W w') := fun W => checkReceiver_any rs rf rl ra rb W
 have HC2 : Hid (∀ W, Calls Tryz.prog 20 #[.agg #[.int .i64 a, .int .i64 b, .int .i64 c, .int .i64 d, .int .i64 x, .int .i64 y]] W fun e w' => e = .returned (.int .i64 (sigE a b c d x y)) ∧ Below W.heap.size W w') := fun W => checkSignal_any a b c d x y W
 have HC3 : Hid (∀ W, Calls Tryz.prog 97 #[.int .i64 t, .int .i64 0, .int .i64 1000] W fun e w' => e = .returned (.int .i64 (whenI (rangeB t 0 1000) 3)) ∧ W = w') := fun W => between_any t 0 1000 W
 obtain ⟨E1, hE1⟩ : ∃ E1, E1 = recE rs rf rl ra rb := ⟨_, rfl⟩
 obtain ⟨E2, hE2⟩ : ∃ E2, E2 = sigE a b c d x y := ⟨_, rfl⟩
 obtain ⟨E3, hE3⟩ : ∃ E3, E3 = whenI (rangeB t 0 1000) 3 := ⟨_, rfl⟩
 rw [← hE1] at HC1 hE
 rw [← hE2] at HC2 hE
 rw [← hE3] at HC3 hE
 have HE := Lib.hid hE
 have hne : (E == 0) = false := by simpa using h0
 have hne2 : (E != 0) = true := by simpa using h0
 clear hE hE1 hE2 hE3 h0
 go_enter Tryz.func37, Tryz.ntmps37
 go_upto_region 1 with fail
 refine genT (fun V => Row V (w.heap.size) 69 [.int .i64 rs, .int .i64 rf, .int .i64 rl, .int .i64 ra, .int .i64 rb] ∧ Row V (w.heap.size + 1) 32 [.int .i64 a, .int .i64 b, .int .i64 c, .int .i64 d, .int .i64 x, .int .i64 y] ∧ Row V (w.heap.size + 1 + 1) 62 [.int .i64 0, .int .i64 0] ∧ Below w.heap.size w V) ⟨(Row.alloc (Row.alloc (rowAt _ _ (by first | rfl | simp only [World.size_alloc])) _) _), (Row.alloc (rowAt _ _ (by first | rfl | simp only [World.size_alloc])) _), (rowAt _ _ (by first | rfl | simp only [World.size_alloc])), ((((Below.refl _ _).alloc (by first | exact Nat.le_refl _ | (simp only [World.size_alloc]; omega)) _).alloc (by first | exact Nat.le_refl _ | (simp only [World.size_alloc]; omega)) _).alloc (by first | exact Nat.le_refl _ | (simp only [World.size_alloc]; omega)) _)⟩ ?_
 intro W1 s1
 have HS1 : Hid (Row W1 (w.heap.size) 69 [.int .i64 rs, .int .i64 rf, .int .i64 rl, .int .i64 ra, .int .i64 rb] ∧ Row W1 (w.heap.size + 1) 32 [.int .i64 a, .int .i64 b, .int .i64 c, .int .i64 d, .int .i64 x, .int .i64 y] ∧ RowN W1 (w.heap.size + 1 + 1) 62 2 ∧ Below w.heap.size w W1) := ⟨s1.1, s1.2.1, ⟨_, rfl, s1.2.2.1⟩, s1.2.2.2⟩
 clear s1
 refine wp_region_held_drew (S := fun V => Row V (w.heap.size) 69 [.int .i64 rs, .int .i64 rf, .int .i64 rl, .int .i64 ra, .int .i64 rb] ∧ Row V (w.heap.size + 1) 32 [.int .i64 a, .int .i64 b, .int .i64 c, .int .i64 d, .int .i64 x, .int .i64 y] ∧ RowN V (w.heap.size + 1 + 1) 62 2 ∧ Below w.heap.size w V) (by kernel_rfl) ?_ (fun hHeld => ?_)
 · exact ⟨(HS1.out.1).drew, (HS1.out.2.1).drew, (HS1.out.2.2.1).drew, (HS1.out.2.2.2).drew⟩
 refine tk 0 11 (.agg #[.int .i64 rs, .int .i64 rf, .int .i64 rl, .int .i64 ra, .int .i64 rb]) rfl (by kernel_rfl) (fun _ _ _ h => h) (by kernel_rfl) (fun V hV => ex_rowT 69 _ rfl (w.heap.size) rfl 69 [.int .i64 rs, .int .i64 rf, .int .i64 rl, .int .i64 ra, .int .i64 rb] _ Tryz.underlying69 rfl (by kernel_rfl) (hV.1)) hHeld ?_
 try simp only [zz]
 refine tk 2 13 (.agg #[.int .i64 a, .int .i64 b, .int .i64 c, .int .i64 d, .int .i64 x, .int .i64 y]) rfl (by kernel_rfl) (fun _ _ _ h => h) (by kernel_rfl) (fun V hV => ex_rowT 32 _ rfl (w.heap.size + 1) rfl 32 [.int .i64 a, .int .i64 b, .int .i64 c, .int .i64 d, .int .i64 x, .int .i64 y] _ Tryz.underlying32 rfl (by kernel_rfl) (hV.2.1)) hHeld ?_
 try simp only [zz]
 refine tk 4 15 ?_ rfl (by kernel_rfl) (fun _ _ _ h => h) (by kernel_rfl) ?_ hHeld ?_
 rotate_left
 · intro w1 hSw; (try dsimp only at hSw); go_simp <;> with_reducible rfl
 try simp only [zz]
 refine st1 1 (by kernel_rfl) rfl (fun K hK => ?_)
 go_simp
 go_at_call 93
 refine (HC1.out _).mono ?_
 rintro e v1 ⟨rfl, hb1⟩
 try go_simp
 refine hK.out _ _ ?_ (fun hHeld => ?_)
 · exact ⟨(hHeld.1).old hb1, (hHeld.2.1).old hb1, (hHeld.2.2.1).old hb1, (hHeld.2.2.2).trans ((hb1).mono (hHeld.2.2.2).size)⟩
 clear hK K
 try simp only [zz]
 refine st1 3 (by kernel_rfl) rfl (fun K hK => ?_)
 go_simp
 go_at_call 20
 refine (HC2.out _).mono ?_
 rintro e v3 ⟨rfl, hb3⟩
 try go_simp
 refine hK.out _ _ ?_ (fun hHeld => ?_)
 · exact ⟨(hHeld.1).old hb3, (hHeld.2.1).old hb3, (hHeld.2.2.1).old hb3, (hHeld.2.2.2).trans ((hb3).mono (hHeld.2.2.2).size)⟩
 clear hK K
 try simp only [zz]
 refine st1 5 (by kernel_rfl) rfl (fun K hK => ?_)
 go_simp
 go_at_call 97
 refine (HC3.out _).mono ?_
 rintro e v5 ⟨rfl, rfl⟩
 try go_simp
 refine hK.out _ _ ?_ (fun hHeld => ?_)
 · exact hHeld
 clear hK K
 try simp only [zz]
 refine st1 6 (by kernel_rfl) rfl (fun K hK => ?_)
 go_simp
 refine hK.out _ _ ?_ (fun hHeld => ?_)
 · exact ⟨(hHeld.1).old ((Below.refl _ _).alloc (Nat.le_refl _) _), (hHeld.2.1).old ((Below.refl _ _).alloc (Nat.le_refl _) _), (hHeld.2.2.1).old ((Below.refl _ _).alloc (Nat.le_refl _) _), (hHeld.2.2.2).trans ((((Below.refl _ _).alloc (Nat.le_refl _) _)).mono (hHeld.2.2.2).size)⟩
 clear hK K
 try simp only [zz]
 refine st1 7 (by kernel_rfl) rfl (fun K hK => ?_)
 go_simp
 go_at_call 80
 refine (firstV_any _ _ _ [E1, E2, E3] _ ?_ rfl (by simp)).mono ?_
 · exact Rd.newT (t := 29)
 rintro e v13 ⟨rfl, rfl⟩
 try go_simp
 refine hK.out _ _ ?_ (fun hHeld => ?_)
 · exact hHeld
 clear hK K
 try simp only [zz]
 refine tk 8 8 ?_ rfl (by kernel_rfl) (fun _ _ _ h => h) (by kernel_rfl) ?_ hHeld ?_
 rotate_left
 · intro w1 hSw; (try dsimp only at hSw); go_simp <;> with_reducible rfl
 try simp only [zz]
 refine wpAnyH_done (by kernel_rfl) ?_ _
 rw [← HE.out]
 clear HC1 HC2 HC3 HE
 obtain ⟨vs, hvl, hvr⟩ := hHeld.2.2.1
 have HB := Lib.hid hHeld.2.2.2
 clear hHeld
 go_wp2_with (refine wpList_store_row rfl 62 _ _ rfl (w.heap.size + 1 + 1) #[.int .i64 0, .int .i64 0] rfl rfl 62 _ hvr ?_ ?_ ?_ ?_; (kernel_rfl); (exact hvl); (simp [Value.oneCell']))
 refine bodyPost_ret (results_rt rfl _ _ (w.heap.size + 1 + 1) 62 #[.int .i64 0, .int .i64 0] (0, 0) _ rfl (hvr.setRow [.int .i64 0, .int .i64 0]) Tryz.underlying62 rfl (by kernel_rfl)) rfl ⟨rfl, Below.setRow HB.out (by omega) _⟩
end Go.Proofs.YtcaekblnioidiaaGreatDoor
