import Derived.Test.YtcaekblnioidiaaGreatDoorM18
namespace Go.Proofs.YtcaekblnioidiaaGreatDoor
set_option linter.all false
open Go.RowKit Go.Fl
set_option maxRecDepth 100000 in
set_option maxHeartbeats 1000000 in
theorem lost_any (rs rf rl ra rb a b c d x y n Q t : Int) (w : World) (h1 : Gs a b) (h2 : Gs c d) (h3 : Gs x y) (hs : 1 ≤ rs ∧ rs ≤ 1000) (hf : 1 ≤ rf ∧ rf ≤ 1000) (hn : n = c * a + d * b - (x * a + y * b)) (hQ : Q = a * a + b * b) (bn : n.natAbs ≤ 1000000000) (bQ : 0 < Q ∧ Q ≤ 1000000000) (ht : 0 ≤ t ∧ t ≤ 1000) : Calls Tryz.prog 95 #[.agg #[.int .i64 rs, .int .i64 rf, .int .i64 rl, .int .i64 ra, .int .i64 rb], .agg #[.int .i64 a, .int .i64 b, .int .i64 c, .int .i64 d, .int .i64 x, .int .i64 y], .int .i64 t] w fun e w' => e = .returned (.int .i64 (shownI rs rf (n * (1000 - t)) (Q * 1000))) ∧ Below w.heap.size w w' := by
 obtain ⟨s, hs0⟩ : ∃ s, s = 1000 - t := ⟨_, rfl⟩
 have bs : 0 ≤ s ∧ s ≤ 1000 := by omega
 have b1 : (n * s).natAbs ≤ 1000000000 * 1000 := by rw [Int.natAbs_mul]; exact Nat.mul_le_mul bn (by omega)
 have e1 : IntKind.i64.wrap (1000 - t) = s := by rw [hs0]; exact IntWalk.i64_in _ (by omega)
 rw [← hs0]
 have HN : Hid (∀ W, Calls Tryz.prog 71 #[.agg #[.int .i64 a, .int .i64 b, .int .i64 c, .int .i64 d, .int .i64 x, .int .i64 y]] W fun e w' => e = .returned (.agg #[.int .i64 n, .int .i64 Q]) ∧ Below W.heap.size W w') := fun W => by rw [hn, hQ]; exact needle_any a b c d x y W h1 h2 h3
 have HT : Hid (∀ W, Calls Tryz.prog 145 #[.agg #[.int .i64 n, .int .i64 Q], .agg #[.int .i64 s, .int .i64 1000]] W fun e w' => e = .returned (.agg #[.int .i64 (n * s), .int .i64 (Q * 1000)]) ∧ Below W.heap.size W w') := fun W => timesQ_any n Q s 1000 W (by omega) (by omega)
 have HW : Hid (∀ W, Calls Tryz.prog 99 #[.agg #[.int .i64 rs, .int .i64 rf, .int .i64 rl, .int .i64 ra, .int .i64 rb], .agg #[.int .i64 (n * s), .int .i64 (Q * 1000)]] W fun e w' => e = .returned (.int .i64 (shownI rs rf (n * s) (Q * 1000))) ∧ Below W.heap.size W w') := fun W => shown_any rs rf rl ra rb (n * s) (Q * 1000) W hs hf (by omega) (by omega)
 obtain ⟨v, hv⟩ : ∃ v, v = shownI rs rf (n * s) (Q * 1000) := ⟨_, rfl⟩
 obtain ⟨N, hN⟩ : ∃ N, N = n * s := ⟨_, rfl⟩
 obtain ⟨D, hD⟩ : ∃ D, D = Q * 1000 := ⟨_, rfl⟩
 rw [← hv] at HW ⊢
 rw [← hN, ← hD] at HT HW
 clear h1 h2 h3 hs hf hn hQ bn bQ ht bs b1 hs0 hv hN hD
 go_enter Tryz.func95, Tryz.ntmps95
 go_upto_region 1 with fail
 refine genT (fun V => Row V (w.heap.size) 69 [.int .i64 rs, .int .i64 rf, .int .i64 rl, .int .i64 ra, .int .i64 rb] ∧ Row V (w.heap.size + 1) 32 [.int .i64 a, .int .i64 b, .int .i64 c, .int .i64 d, .int .i64 x, .int .i64 y] ∧ Below w.heap.size w V) ⟨(Row.alloc (rowAt _ _ (by first | rfl | simp only [World.size_alloc])) _), (rowAt _ _ (by first | rfl | simp only [World.size_alloc])), (((Below.refl _ _).alloc (by first | exact Nat.le_refl _ | (simp only [World.size_alloc]; omega)) _).alloc (by first | exact Nat.le_refl _ | (simp only [World.size_alloc]; omega)) _)⟩ ?_
 intro W1 s1
 have HS1 := Lib.hid s1
 clear s1
 refine wp_region_held_drew (S := fun V => Row V (w.heap.size) 69 [.int .i64 rs, .int .i64 rf, .int .i64 rl, .int .i64 ra, .int .i64 rb] ∧ Row V (w.heap.size + 1) 32 [.int .i64 a, .int .i64 b, .int .i64 c, .int .i64 d, .int .i64 x, .int .i64 y] ∧ Below w.heap.size w V) (by kernel_rfl) ?_ (fun hHeld => ?_)
 · exact ⟨(HS1.out.1).drew, (HS1.out.2.1).drew, (HS1.out.2.2).drew⟩
 refine tk 0 7 (.agg #[.int .i64 rs, .int .i64 rf, .int .i64 rl, .int .i64 ra, .int .i64 rb]) rfl (by kernel_rfl) (fun _ _ _ h => h) (by kernel_rfl) (fun V hV => ex_rowT 69 _ rfl (w.heap.size) rfl 69 [.int .i64 rs, .int .i64 rf, .int .i64 rl, .int .i64 ra, .int .i64 rb] _ Tryz.underlying69 rfl (by kernel_rfl) (hV.1)) hHeld ?_
 try simp only [zz]
 refine tk 1 8 (.agg #[.int .i64 a, .int .i64 b, .int .i64 c, .int .i64 d, .int .i64 x, .int .i64 y]) rfl (by kernel_rfl) (fun _ _ _ h => h) (by kernel_rfl) (fun V hV => ex_rowT 32 _ rfl (w.heap.size + 1) rfl 32 [.int .i64 a, .int .i64 b, .int .i64 c, .int .i64 d, .int .i64 x, .int .i64 y] _ Tryz.underlying32 rfl (by kernel_rfl) (hV.2.1)) hHeld ?_
 try simp only [zz]
 refine tk 3 10 ?_ rfl (by kernel_rfl) (fun _ _ _ h => h) (by kernel_rfl) ?_ hHeld ?_
 rotate_left
 · intro w1 hSw; (try dsimp only at hSw); go_simp <;> with_reducible rfl
 try simp only [zz]
 refine tk 4 11 ?_ rfl (by kernel_rfl) (fun _ _ _ h => h) (by kernel_rfl) ?_ hHeld ?_
 rotate_left
 · intro w1 hSw; (try dsimp only at hSw); go_simp <;> with_reducible rfl
 try simp only [zz]
 refine tk 5 12 ?_ rfl (by kernel_rfl) (fun _ _ _ h => h) (by kernel_rfl) ?_ hHeld ?_
 rotate_left
 · intro w1 hSw; (try dsimp only at hSw); go_simp <;> with_reducible rfl
 try simp only [zz]
 refine st1 2 (by kernel_rfl) rfl (fun K hK => ?_)
 go_simp
 go_at_call 71
 refine (HN.out _).mono ?_
 rintro e v2 ⟨rfl, hb2⟩
 try go_simp
 refine hK.out _ _ ?_ (fun hHeld => ?_)
 · exact ⟨(hHeld.1).old hb2, (hHeld.2.1).old hb2, (hHeld.2.2).trans ((hb2).mono (hHeld.2.2).size)⟩
 clear hK K
 try simp only [zz]
 refine st1 6 (by kernel_rfl) rfl (fun K hK => ?_)
 go_simp
 go_at_call 145
 refine (HT.out _).mono ?_
 rintro e v6 ⟨rfl, hb6⟩
 try go_simp
 refine hK.out _ _ ?_ (fun hHeld => ?_)
 · exact ⟨(hHeld.1).old hb6, (hHeld.2.1).old hb6, (hHeld.2.2).trans ((hb6).mono (hHeld.2.2).size)⟩
 clear hK K
 try simp only [zz]
 refine st1 7 (by kernel_rfl) rfl (fun K hK => ?_)
 go_simp
 go_at_call 99
 refine (HW.out _).mono ?_
 rintro e v7 ⟨rfl, hb7⟩
 try go_simp
 refine hK.out _ _ ?_ (fun hHeld => ?_)
 · exact ⟨(hHeld.1).old hb7, (hHeld.2.1).old hb7, (hHeld.2.2).trans ((hb7).mono (hHeld.2.2).size)⟩
 clear hK K
 try simp only [zz]
 refine tk 8 6 ?_ rfl (by kernel_rfl) (fun _ _ _ h => h) (by kernel_rfl) ?_ hHeld ?_
 rotate_left
 · intro w1 hSw; (try dsimp only at hSw); go_simp <;> with_reducible rfl
 try simp only [zz]
 refine wpAnyH_done (by kernel_rfl) ?_ _
 go_wp2_with fail
 go_ret
 exact ⟨rfl, hHeld.2.2⟩
set_option maxRecDepth 100000 in
set_option maxHeartbeats 1000000 in
theorem lostT_ok (rs rf rl ra rb a b c d x y lo hi E : Int) (w : World) (hE : E = firstI [recE rs rf rl ra rb, sigE a b c d x y, ivE lo hi 0 1000]) (h0 : E = 0) (p q : Int) (HP : ∀ W, Calls Tryz.prog 95 #[.agg #[.int .i64 rs, .int .i64 rf, .int .i64 rl, .int .i64 ra, .int .i64 rb], .agg #[.int .i64 a, .int .i64 b, .int .i64 c, .int .i64 d, .int .i64 x, .int .i64 y], .int .i64 lo] W fun e w' => e = .returned (.int .i64 p) ∧ Below W.heap.size W w') (HQ : ∀ W, Calls Tryz.prog 95 #[.agg #[.int .i64 rs, .int .i64 rf, .int .i64 rl, .int .i64 ra, .int .i64 rb], .agg #[.int .i64 a, .int .i64 b, .int .i64 c, .int .i64 d, .int .i64 x, .int .i64 y], .int .i64 hi] W fun e w' => e = .returned (.int .i64 q) ∧ Below W.heap.size W w') : Calls Tryz.prog 36 #[.agg #[.int .i64 rs, .int .i64 rf, .int .i64 rl, .int .i64 ra, .int .i64 rb], .agg #[.int .i64 a, .int .i64 b, .int .i64 c, .int .i64 d, .int .i64 x, .int .i64 y], .agg #[.int .i64 lo, .int .i64 hi]] w fun e w' => e = .returned (.tuple #[.agg #[.int .i64 (minL [p, q]), .int .i64 (maxL [p, q])], .int .i64 0]) ∧ Below w.heap.size w w' := by
 have HP := Lib.hid HP; have HQ := Lib.hid HQ
 have HC1 : Hid (∀ W, Calls Tryz.prog 93 #[.agg #[.int .i64 rs, .int .i64 rf, .int .i64 rl, .int .i64 ra, .int .i64 rb]] W fun e w' => e = .returned (.int .i64 (recE rs rf rl ra rb)) ∧ Below W.heap.size W w') := fun W => checkReceiver_any rs rf rl ra rb W
 have HC2 : Hid (∀ W, Calls Tryz.prog 20 #[.agg #[.int .i64 a, .int .i64 b, .int .i64 c, .int .i64 d, .int .i64 x, .int .i64 y]] W fun e w' => e = .returned (.int .i64 (sigE a b c d x y)) ∧ Below W.heap.size W w') := fun W => checkSignal_any a b c d x y W
 have HC3 : Hid (∀ W, Calls Tryz.prog 94 #[.agg #[.int .i64 lo, .int .i64 hi], .int .i64 0, .int .i64 1000] W fun e w' => e = .returned (.int .i64 (ivE lo hi 0 1000)) ∧ Below W.heap.size W w') := fun W => checkInterval_any lo hi 0 1000 W
 obtain ⟨E1, hE1⟩ : ∃ E1, E1 = recE rs rf rl ra rb := ⟨_, rfl⟩
 obtain ⟨E2, hE2⟩ : ∃ E2, E2 = sigE a b c d x y := ⟨_, rfl⟩
 obtain ⟨E3, hE3⟩ : ∃ E3, E3 = ivE lo hi 0 1000 := ⟨_, rfl⟩
 rw [← hE1] at HC1 hE
 rw [← hE2] at HC2 hE
 rw [← hE3] at HC3 hE
 have HE := Lib.hid hE
 have hne : (E == 0) = true := by simpa using h0
 have hne2 : (E != 0) = false := by simpa using h0
 clear hE hE1 hE2 hE3 h0
 obtain ⟨mn, hmn⟩ : ∃ mn, mn = minL [p, q] := ⟨_, rfl⟩
 obtain ⟨mx, hmx⟩ : ∃ mx, mx = maxL [p, q] := ⟨_, rfl⟩
 have HR : Hid (∀ W g, Row W g 3 [.int .i64 p, .int .i64 q] → Calls Tryz.prog 96 #[.slice (some ⟨g, 0, none⟩) 2 2] W fun e w' => e = .returned (.agg #[.int .i64 mn, .int .i64 mx]) ∧ Below W.heap.size W w') := fun W g h => by rw [hmn, hmx]; exact reach_any _ 2 2 [p, q] W (Rd.row h) rfl (by simp) (by simp)
 rw [← hmn, ← hmx]
 clear hmn hmx
 go_enter Tryz.func36, Tryz.ntmps36
 go_upto_region 1 with fail
 refine genT (fun V => Row V (w.heap.size) 69 [.int .i64 rs, .int .i64 rf, .int .i64 rl, .int .i64 ra, .int .i64 rb] ∧ Row V (w.heap.size + 1) 32 [.int .i64 a, .int .i64 b, .int .i64 c, .int .i64 d, .int .i64 x, .int .i64 y] ∧ Row V (w.heap.size + 1 + 1) 62 [.int .i64 lo, .int .i64 hi] ∧ Row V (w.heap.size + 1 + 1 + 1) 62 [.int .i64 0, .int .i64 0] ∧ Below w.heap.size w V) ⟨(Row.alloc (Row.alloc (Row.alloc (rowAt _ _ (by first | rfl | simp only [World.size_alloc])) _) _) _), (Row.alloc (Row.alloc (rowAt _ _ (by first | rfl | simp only [World.size_alloc])) _) _), (Row.alloc (rowAt _ _ (by first | rfl | simp only [World.size_alloc])) _), (rowAt _ _ (by first | rfl | simp only [World.size_alloc])), (((((Below.refl _ _).alloc (by first | exact Nat.le_refl _ | (simp only [World.size_alloc]; omega)) _).alloc (by first | exact Nat.le_refl _ | (simp only [World.size_alloc]; omega)) _).alloc (by first | exact Nat.le_refl _ | (simp only [World.size_alloc]; omega)) _).alloc (by first | exact Nat.le_refl _ | (simp only [World.size_alloc]; omega)) _)⟩ ?_
 intro W1 s1
 have HS1 : Hid (Row W1 (w.heap.size) 69 [.int .i64 rs, .int .i64 rf, .int .i64 rl, .int .i64 ra, .int .i64 rb] ∧ Row W1 (w.heap.size + 1) 32 [.int .i64 a, .int .i64 b, .int .i64 c, .int .i64 d, .int .i64 x, .int .i64 y] ∧ Row W1 (w.heap.size + 1 + 1) 62 [.int .i64 lo, .int .i64 hi] ∧ RowN W1 (w.heap.size + 1 + 1 + 1) 62 2 ∧ Below w.heap.size w W1) := ⟨s1.1, s1.2.1, s1.2.2.1, ⟨_, rfl, s1.2.2.2.1⟩, s1.2.2.2.2⟩
 clear s1
 refine wp_region_held_drew (S := fun V => Row V (w.heap.size) 69 [.int .i64 rs, .int .i64 rf, .int .i64 rl, .int .i64 ra, .int .i64 rb] ∧ Row V (w.heap.size + 1) 32 [.int .i64 a, .int .i64 b, .int .i64 c, .int .i64 d, .int .i64 x, .int .i64 y] ∧ Row V (w.heap.size + 1 + 1) 62 [.int .i64 lo, .int .i64 hi] ∧ RowN V (w.heap.size + 1 + 1 + 1) 62 2 ∧ Below w.heap.size w V) (by kernel_rfl) ?_ (fun hHeld => ?_)
 · exact ⟨(HS1.out.1).drew, (HS1.out.2.1).drew, (HS1.out.2.2.1).drew, (HS1.out.2.2.2.1).drew, (HS1.out.2.2.2.2).drew⟩
 refine tk 0 11 (.agg #[.int .i64 rs, .int .i64 rf, .int .i64 rl, .int .i64 ra, .int .i64 rb]) rfl (by kernel_rfl) (fun _ _ _ h => h) (by kernel_rfl) (fun V hV => ex_rowT 69 _ rfl (w.heap.size) rfl 69 [.int .i64 rs, .int .i64 rf, .int .i64 rl, .int .i64 ra, .int .i64 rb] _ Tryz.underlying69 rfl (by kernel_rfl) (hV.1)) hHeld ?_
 try simp only [zz]
 refine tk 2 13 (.agg #[.int .i64 a, .int .i64 b, .int .i64 c, .int .i64 d, .int .i64 x, .int .i64 y]) rfl (by kernel_rfl) (fun _ _ _ h => h) (by kernel_rfl) (fun V hV => ex_rowT 32 _ rfl (w.heap.size + 1) rfl 32 [.int .i64 a, .int .i64 b, .int .i64 c, .int .i64 d, .int .i64 x, .int .i64 y] _ Tryz.underlying32 rfl (by kernel_rfl) (hV.2.1)) hHeld ?_
 try simp only [zz]
 refine tk 4 15 (.agg #[.int .i64 lo, .int .i64 hi]) rfl (by kernel_rfl) (fun _ _ _ h => h) (by kernel_rfl) (fun V hV => ex_rowT 62 _ rfl (w.heap.size + 1 + 1) rfl 62 [.int .i64 lo, .int .i64 hi] _ Tryz.underlying62 rfl (by kernel_rfl) (hV.2.2.1)) hHeld ?_
 try simp only [zz]
 refine st1 1 (by kernel_rfl) rfl (fun K hK => ?_)
 go_simp
 go_at_call 93
 refine (HC1.out _).mono ?_
 rintro e v1 ⟨rfl, hb1⟩
 try go_simp
 refine hK.out _ _ ?_ (fun hHeld => ?_)
 · exact ⟨(hHeld.1).old hb1, (hHeld.2.1).old hb1, (hHeld.2.2.1).old hb1, (hHeld.2.2.2.1).old hb1, (hHeld.2.2.2.2).trans ((hb1).mono (hHeld.2.2.2.2).size)⟩
 clear hK K
 try simp only [zz]
 refine st1 3 (by kernel_rfl) rfl (fun K hK => ?_)
 go_simp
 go_at_call 20
 refine (HC2.out _).mono ?_
 rintro e v3 ⟨rfl, hb3⟩
 try go_simp
 refine hK.out _ _ ?_ (fun hHeld => ?_)
 · exact ⟨(hHeld.1).old hb3, (hHeld.2.1).old hb3, (hHeld.2.2.1).old hb3, (hHeld.2.2.2.1).old hb3, (hHeld.2.2.2.2).trans ((hb3).mono (hHeld.2.2.2.2).size)⟩
 clear hK K
 try simp only [zz]
 refine st1 5 (by kernel_rfl) rfl (fun K hK => ?_)
 go_simp
 go_at_call 94
 refine (HC3.out _).mono ?_
 rintro e v5 ⟨rfl, hb5⟩
 try go_simp
 refine hK.out _ _ ?_ (fun hHeld => ?_)
 · exact ⟨(hHeld.1).old hb5, (hHeld.2.1).old hb5, (hHeld.2.2.1).old hb5, (hHeld.2.2.2.1).old hb5, (hHeld.2.2.2.2).trans ((hb5).mono (hHeld.2.2.2.2).size)⟩
 clear hK K
 try simp only [zz]
 refine st1 6 (by kernel_rfl) rfl (fun K hK => ?_)
 go_simp
 refine hK.out _ _ ?_ (fun hHeld => ?_)
 · exact ⟨(hHeld.1).old ((Below.refl _ _).alloc (Nat.le_refl _) _), (hHeld.2.1).old ((Below.refl _ _).alloc (Nat.le_refl _) _), (hHeld.2.2.1).old ((Below.refl _ _).alloc (Nat.le_refl _) _), (hHeld.2.2.2.1).old ((Below.refl _ _).alloc (Nat.le_refl _) _), (hHeld.2.2.2.2).trans ((((Below.refl _ _).alloc (Nat.le_refl _) _)).mono (hHeld.2.2.2.2).size)⟩
 clear hK K
 try simp only [zz]
 refine st1 7 (by kernel_rfl) rfl (fun K hK => ?_)
 go_simp
 go_at_call 80
 refine (firstV_any _ _ _ [E1, E2, E3] _ ?_ rfl (by simp)).mono ?_
 · exact Rd.newT (t := 29)
 rintro e v13 ⟨rfl, rfl⟩
 try go_simp
 refine hK.out _ _ ?_ (fun hHeld => ?_)
 · exact hHeld
 clear hK K
 try simp only [zz]
 refine tk 8 8 ?_ rfl (by kernel_rfl) (fun _ _ _ h => h) (by kernel_rfl) ?_ hHeld ?_
 rotate_left
 · intro w1 hSw; (try dsimp only at hSw); go_simp <;> with_reducible rfl
 try simp only [zz]
 refine wpAnyH_done (by kernel_rfl) ?_ _
 rw [← HE.out]
 clear HC1 HC2 HC3 HE
 have HS4 := Lib.hid hHeld
 clear hHeld
 go_upto_region 4 with fail
 have HS5 : Hid _ := HS4.out
 clear HS4
 refine wp_region_held_drew (S := fun V => Row V (w.heap.size) 69 [.int .i64 rs, .int .i64 rf, .int .i64 rl, .int .i64 ra, .int .i64 rb] ∧ Row V (w.heap.size + 1) 32 [.int .i64 a, .int .i64 b, .int .i64 c, .int .i64 d, .int .i64 x, .int .i64 y] ∧ Row V (w.heap.size + 1 + 1) 62 [.int .i64 lo, .int .i64 hi] ∧ RowN V (w.heap.size + 1 + 1 + 1) 62 2 ∧ Below w.heap.size w V) (by kernel_rfl) ?_ (fun hHeld => ?_)
 · exact ⟨(HS5.out.1).drew, (HS5.out.2.1).drew, (HS5.out.2.2.1).drew, (HS5.out.2.2.2.1).drew, (HS5.out.2.2.2.2).drew⟩
 refine tk 0 23 (.agg #[.int .i64 rs, .int .i64 rf, .int .i64 rl, .int .i64 ra, .int .i64 rb]) rfl (by kernel_rfl) (fun _ _ _ h => h) (by kernel_rfl) (fun V hV => ex_rowT 69 _ rfl (w.heap.size) rfl 69 [.int .i64 rs, .int .i64 rf, .int .i64 rl, .int .i64 ra, .int .i64 rb] _ Tryz.underlying69 rfl (by kernel_rfl) (hV.1)) hHeld ?_
 try simp only [zz]
 refine tk 1 24 (.agg #[.int .i64 a, .int .i64 b, .int .i64 c, .int .i64 d, .int .i64 x, .int .i64 y]) rfl (by kernel_rfl) (fun _ _ _ h => h) (by kernel_rfl) (fun V hV => ex_rowT 32 _ rfl (w.heap.size + 1) rfl 32 [.int .i64 a, .int .i64 b, .int .i64 c, .int .i64 d, .int .i64 x, .int .i64 y] _ Tryz.underlying32 rfl (by kernel_rfl) (hV.2.1)) hHeld ?_
 try simp only [zz]
 refine tk 2 25 ?_ rfl (by kernel_rfl) (fun _ _ _ h => h) (by kernel_rfl) ?_ hHeld ?_
 rotate_left
 · intro w1 hSw; (try dsimp only at hSw); go_simp <;> with_reducible rfl
 try simp only [zz]
 refine tk 3 26 ?_ rfl (by kernel_rfl) (fun _ _ _ h => h) (by kernel_rfl) ?_ hHeld ?_
 rotate_left
 · intro w1 hSw; (try dsimp only at hSw); have cc := (hSw.2.2.1).cell 0; simp only [List.getElem?_cons_succ, List.getElem?_cons_zero] at cc; go_simp <;> with_reducible rfl
 try simp only [zz]
 refine tk 5 28 (.agg #[.int .i64 rs, .int .i64 rf, .int .i64 rl, .int .i64 ra, .int .i64 rb]) rfl (by kernel_rfl) (fun _ _ _ h => h) (by kernel_rfl) (fun V hV => ex_rowT 69 _ rfl (w.heap.size) rfl 69 [.int .i64 rs, .int .i64 rf, .int .i64 rl, .int .i64 ra, .int .i64 rb] _ Tryz.underlying69 rfl (by kernel_rfl) (hV.1)) hHeld ?_
 try simp only [zz]
 refine tk 6 29 (.agg #[.int .i64 a, .int .i64 b, .int .i64 c, .int .i64 d, .int .i64 x, .int .i64 y]) rfl (by kernel_rfl) (fun _ _ _ h => h) (by kernel_rfl) (fun V hV => ex_rowT 32 _ rfl (w.heap.size + 1) rfl 32 [.int .i64 a, .int .i64 b, .int .i64 c, .int .i64 d, .int .i64 x, .int .i64 y] _ Tryz.underlying32 rfl (by kernel_rfl) (hV.2.1)) hHeld ?_
 try simp only [zz]
 refine tk 7 30 ?_ rfl (by kernel_rfl) (fun _ _ _ h => h) (by kernel_rfl) ?_ hHeld ?_
 rotate_left
 · intro w1 hSw; (try dsimp only at hSw); go_simp <;> with_reducible rfl
 try simp only [zz]
 refine tk 8 31 ?_ rfl (by kernel_rfl) (fun _ _ _ h => h) (by kernel_rfl) ?_ hHeld ?_
 rotate_left
 · intro w1 hSw; (try dsimp only at hSw); have cc := (hSw.2.2.1).cell 1; simp only [List.getElem?_cons_succ, List.getElem?_cons_zero] at cc; go_simp <;> with_reducible rfl
 try simp only [zz]
 refine st1 4 (by kernel_rfl) rfl (fun K hK => ?_)
 go_simp
 go_at_call 95
 refine (HP.out _).mono ?_
 rintro e v4 ⟨rfl, hb4⟩
 try go_simp
 refine hK.out _ _ ?_ (fun hHeld => ?_)
 · exact ⟨(hHeld.1).old hb4, (hHeld.2.1).old hb4, (hHeld.2.2.1).old hb4, (hHeld.2.2.2.1).old hb4, (hHeld.2.2.2.2).trans ((hb4).mono (hHeld.2.2.2.2).size)⟩
 clear hK K
 try simp only [zz]
 refine st1 9 (by kernel_rfl) rfl (fun K hK => ?_)
 go_simp
 go_at_call 95
 refine (HQ.out _).mono ?_
 rintro e v9 ⟨rfl, hb9⟩
 try go_simp
 refine hK.out _ _ ?_ (fun hHeld => ?_)
 · exact ⟨(hHeld.1).old hb9, (hHeld.2.1).old hb9, (hHeld.2.2.1).old hb9, (hHeld.2.2.2.1).old hb9, (hHeld.2.2.2.2).trans ((hb9).mono (hHeld.2.2.2.2).size)⟩
 clear hK K
 try simp only [zz]
 refine tk 10 9 ?_ rfl (by kernel_rfl) (fun _ _ _ h => h) (by kernel_rfl) ?_ hHeld ?_
 rotate_left
 · intro w1 hSw; (try dsimp only at hSw); go_simp <;> with_reducible rfl
 try simp only [zz]
 refine tk 11 10 ?_ rfl (by kernel_rfl) (fun _ _ _ h => h) (by kernel_rfl) ?_ hHeld ?_
 rotate_left
 · intro w1 hSw; (try dsimp only at hSw); go_simp <;> with_reducible rfl
 try simp only [zz]
 refine wpAnyH_done (by kernel_rfl) ?_ _
 obtain ⟨vs, hvl, hvr⟩ := hHeld.2.2.2.1
 have HB := Lib.hid (hHeld.2.2.2.2)
 have HV := Lib.hid hvr
 clear hHeld hvr
 go_wp2_with (first
  | (go_at_call 96; refine (HR.out _ _ (Row.new _ _ _)).mono ?_; rintro e v3 ⟨rfl, hb3⟩; have HV3 := Lib.hid ((HV.out.alloc _).old hb3); have HB3 := Lib.hid ((HB.out.alloc HB.out.size _).trans (hb3.mono (HB.out.alloc HB.out.size _).size)); clear hb3)
  | (refine wpList_store_row rfl 62 _ _ rfl (w.heap.size + 1 + 1 + 1) #[.int .i64 mn, .int .i64 mx] rfl rfl 62 _ HV3.out ?_ ?_ ?_ ?_; (kernel_rfl); (exact hvl); (simp [Value.oneCell'])))
 refine bodyPost_ret (results_rt rfl _ _ (w.heap.size + 1 + 1 + 1) 62 #[.int .i64 mn, .int .i64 mx] (0, 0) _ rfl (HV3.out.setRow [.int .i64 mn, .int .i64 mx]) Tryz.underlying62 rfl (by kernel_rfl)) rfl ⟨rfl, Below.setRow HB3.out (by omega) _⟩
set_option maxRecDepth 100000 in
set_option maxHeartbeats 1000000 in
theorem noisyT_ok (rs rf rl ra rb a b c d x y t E : Int) (w : World) (hE : E = firstI [recE rs rf rl ra rb, sigE a b c d x y, whenI (rangeB t 0 1000) 3]) (h0 : E = 0) (n Q by0 p q : Int) (bn : n.natAbs ≤ 1000000000) (bb : 0 ≤ by0 ∧ by0 ≤ 100000000) (hby : by0 = 2 * t * (max a (-a) + max b (-b))) (ht : 0 ≤ t ∧ t ≤ 1000) (ha : a.natAbs ≤ 10000) (hb : b.natAbs ≤ 10000) (HN : ∀ W, Calls Tryz.prog 71 #[.agg #[.int .i64 a, .int .i64 b, .int .i64 c, .int .i64 d, .int .i64 x, .int .i64 y]] W fun e w' => e = .returned (.agg #[.int .i64 n, .int .i64 Q]) ∧ Below W.heap.size W w') (HP : ∀ W, Calls Tryz.prog 99 #[.agg #[.int .i64 rs, .int .i64 rf, .int .i64 rl, .int .i64 ra, .int .i64 rb], .agg #[.int .i64 (n - by0), .int .i64 Q]] W fun e w' => e = .returned (.int .i64 p) ∧ Below W.heap.size W w') (HQ : ∀ W, Calls Tryz.prog 99 #[.agg #[.int .i64 rs, .int .i64 rf, .int .i64 rl, .int .i64 ra, .int .i64 rb], .agg #[.int .i64 (n + by0), .int .i64 Q]] W fun e w' => e = .returned (.int .i64 q) ∧ Below W.heap.size W w') : Calls Tryz.prog 37 #[.agg #[.int .i64 rs, .int .i64 rf, .int .i64 rl, .int .i64 ra, .int .i64 rb], .agg #[.int .i64 a, .int .i64 b, .int .i64 c, .int .i64 d, .int .i64 x, .int .i64 y], .int .i64 t] w fun e w' => e = .returned (.tuple #[.agg #[.int .i64 p, .int .i64 q], .int .i64 0]) ∧ Below w.heap.size w w' := by
 have HN := Lib.hid HN; have HP := Lib.hid HP; have HQ := Lib.hid HQ
 have HC1 : Hid (∀ W, Calls Tryz.prog 93 #[.agg #[.int .i64 rs, .int .i64 rf, .int .i64 rl, .int .i64 ra, .int .i64 rb]] W fun e w' => e = .returned (.int .i64 (recE rs rf rl ra rb)) ∧ Below W.heap.size W w') := fun W => checkReceiver_any rs rf rl ra rb W
 have HC2 : Hid (∀ W, Calls Tryz.prog 20 #[.agg #[.int .i64 a, .int .i64 b, .int .i64 c, .int .i64 d, .int .i64 x, .int .i64 y]] W fun e w' => e = .returned (.int .i64 (sigE a b c d x y)) ∧ Below W.heap.size W w') := fun W => checkSignal_any a b c d x y W
 have HC3 : Hid (∀ W, Calls Tryz.prog 97 #[.int .i64 t, .int .i64 0, .int .i64 1000] W fun e w' => e = .returned (.int .i64 (whenI (rangeB t 0 1000) 3)) ∧ W = w') := fun W => between_any t 0 1000 W
 obtain ⟨E1, hE1⟩ : ∃ E1, E1 = recE rs rf rl ra rb := ⟨_, rfl⟩
 obtain ⟨E2, hE2⟩ : ∃ E2, E2 = sigE a b c d x y := ⟨_, rfl⟩
 obtain ⟨E3, hE3⟩ : ∃ E3, E3 = whenI (rangeB t 0 1000) 3 := ⟨_, rfl⟩
 rw [← hE1] at HC1 hE
 rw [← hE2] at HC2 hE
 rw [← hE3] at HC3 hE
 have HE := Lib.hid hE
 have hne : (E == 0) = true := by simpa using h0
 have hne2 : (E != 0) = false := by simpa using h0
 clear hE hE1 hE2 hE3 h0
 obtain ⟨aa, haa⟩ : ∃ aa, aa = max a (-a) := ⟨_, rfl⟩
 obtain ⟨ab, hab⟩ : ∃ ab, ab = max b (-b) := ⟨_, rfl⟩
 rw [← haa, ← hab] at hby
 have ka : 0 ≤ aa ∧ aa ≤ 10000 := by omega
 have kb : 0 ≤ ab ∧ ab ≤ 10000 := by omega
 have HA : Hid (∀ W, Calls Tryz.prog 98 #[.int .i64 a] W fun e w' => e = .returned (.int .i64 aa) ∧ W = w') := fun W => (absolute_any a W (by unfold Bd; omega)).mono fun e w' h => ⟨by rw [h.1, haa], h.2.symm⟩
 have HAB : Hid (∀ W, Calls Tryz.prog 98 #[.int .i64 b] W fun e w' => e = .returned (.int .i64 ab) ∧ W = w') := fun W => (absolute_any b W (by unfold Bd; omega)).mono fun e w' h => ⟨by rw [h.1, hab], h.2.symm⟩
 have e1 : IntKind.i64.wrap (2 * t) = 2 * t := IntWalk.i64_in _ (by omega)
 have e2 : IntKind.i64.wrap (aa + ab) = aa + ab := IntWalk.i64_in _ (by omega)
 have e3 : IntKind.i64.wrap (2 * t * (aa + ab)) = by0 := by rw [← hby]; exact IntWalk.i64_in _ (by omega)
 have e4 : IntKind.i64.wrap (n - by0) = n - by0 := IntWalk.i64_in _ (by omega)
 have e5 : IntKind.i64.wrap (n + by0) = n + by0 := IntWalk.i64_in _ (by omega)
 clear bn bb hby ht ha hb haa hab ka kb
 go_enter Tryz.func37, Tryz.ntmps37
 go_upto_region 1 with fail
 refine genT (fun V => Row V (w.heap.size) 69 [.int .i64 rs, .int .i64 rf, .int .i64 rl, .int .i64 ra, .int .i64 rb] ∧ Row V (w.heap.size + 1) 32 [.int .i64 a, .int .i64 b, .int .i64 c, .int .i64 d, .int .i64 x, .int .i64 y] ∧ Row V (w.heap.size + 1 + 1) 62 [.int .i64 0, .int .i64 0] ∧ Below w.heap.size w V) ⟨(Row.alloc (Row.alloc (rowAt _ _ (by first | rfl | simp only [World.size_alloc])) _) _), (Row.alloc (rowAt _ _ (by first | rfl | simp only [World.size_alloc])) _), (rowAt _ _ (by first | rfl | simp only [World.size_alloc])), ((((Below.refl _ _).alloc (by first | exact Nat.le_refl _ | (simp only [World.size_alloc]; omega)) _).alloc (by first | exact Nat.le_refl _ | (simp only [World.size_alloc]; omega)) _).alloc (by first | exact Nat.le_refl _ | (simp only [World.size_alloc]; omega)) _)⟩ ?_
 intro W1 s1
 have HS1 : Hid (Row W1 (w.heap.size) 69 [.int .i64 rs, .int .i64 rf, .int .i64 rl, .int .i64 ra, .int .i64 rb] ∧ Row W1 (w.heap.size + 1) 32 [.int .i64 a, .int .i64 b, .int .i64 c, .int .i64 d, .int .i64 x, .int .i64 y] ∧ RowN W1 (w.heap.size + 1 + 1) 62 2 ∧ Below w.heap.size w W1) := ⟨s1.1, s1.2.1, ⟨_, rfl, s1.2.2.1⟩, s1.2.2.2⟩
 clear s1
 refine wp_region_held_drew (S := fun V => Row V (w.heap.size) 69 [.int .i64 rs, .int .i64 rf, .int .i64 rl, .int .i64 ra, .int .i64 rb] ∧ Row V (w.heap.size + 1) 32 [.int .i64 a, .int .i64 b, .int .i64 c, .int .i64 d, .int .i64 x, .int .i64 y] ∧ RowN V (w.heap.size + 1 + 1) 62 2 ∧ Below w.heap.size w V) (by kernel_rfl) ?_ (fun hHeld => ?_)
 · exact ⟨(HS1.out.1).drew, (HS1.out.2.1).drew, (HS1.out.2.2.1).drew, (HS1.out.2.2.2).drew⟩
 refine tk 0 11 (.agg #[.int .i64 rs, .int .i64 rf, .int .i64 rl, .int .i64 ra, .int .i64 rb]) rfl (by kernel_rfl) (fun _ _ _ h => h) (by kernel_rfl) (fun V hV => ex_rowT 69 _ rfl (w.heap.size) rfl 69 [.int .i64 rs, .int .i64 rf, .int .i64 rl, .int .i64 ra, .int .i64 rb] _ Tryz.underlying69 rfl (by kernel_rfl) (hV.1)) hHeld ?_
 try simp only [zz]
 refine tk 2 13 (.agg #[.int .i64 a, .int .i64 b, .int .i64 c, .int .i64 d, .int .i64 x, .int .i64 y]) rfl (by kernel_rfl) (fun _ _ _ h => h) (by kernel_rfl) (fun V hV => ex_rowT 32 _ rfl (w.heap.size + 1) rfl 32 [.int .i64 a, .int .i64 b, .int .i64 c, .int .i64 d, .int .i64 x, .int .i64 y] _ Tryz.underlying32 rfl (by kernel_rfl) (hV.2.1)) hHeld ?_
 try simp only [zz]
 refine tk 4 15 ?_ rfl (by kernel_rfl) (fun _ _ _ h => h) (by kernel_rfl) ?_ hHeld ?_
 rotate_left
 · intro w1 hSw; (try dsimp only at hSw); go_simp <;> with_reducible rfl
 try simp only [zz]
 refine st1 1 (by kernel_rfl) rfl (fun K hK => ?_)
 go_simp
 go_at_call 93
 refine (HC1.out _).mono ?_
 rintro e v1 ⟨rfl, hb1⟩
 try go_simp
 refine hK.out _ _ ?_ (fun hHeld => ?_)
 · exact ⟨(hHeld.1).old hb1, (hHeld.2.1).old hb1, (hHeld.2.2.1).old hb1, (hHeld.2.2.2).trans ((hb1).mono (hHeld.2.2.2).size)⟩
 clear hK K
 try simp only [zz]
 refine st1 3 (by kernel_rfl) rfl (fun K hK => ?_)
 go_simp
 go_at_call 20
 refine (HC2.out _).mono ?_
 rintro e v3 ⟨rfl, hb3⟩
 try go_simp
 refine hK.out _ _ ?_ (fun hHeld => ?_)
 · exact ⟨(hHeld.1).old hb3, (hHeld.2.1).old hb3, (hHeld.2.2.1).old hb3, (hHeld.2.2.2).trans ((hb3).mono (hHeld.2.2.2).size)⟩
 clear hK K
 try simp only [zz]
 refine st1 5 (by kernel_rfl) rfl (fun K hK => ?_)
 go_simp
 go_at_call 97
 refine (HC3.out _).mono ?_
 rintro e v5 ⟨rfl, rfl⟩
 try go_simp
 refine hK.out _ _ ?_ (fun hHeld => ?_)
 · exact hHeld
 clear hK K
 try simp only [zz]
 refine st1 6 (by kernel_rfl) rfl (fun K hK => ?_)
 go_simp
 refine hK.out _ _ ?_ (fun hHeld => ?_)
 · exact ⟨(hHeld.1).old ((Below.refl _ _).alloc (Nat.le_refl _) _), (hHeld.2.1).old ((Below.refl _ _).alloc (Nat.le_refl _) _), (hHeld.2.2.1).old ((Below.refl _ _).alloc (Nat.le_refl _) _), (hHeld.2.2.2).trans ((((Below.refl _ _).alloc (Nat.le_refl _) _)).mono (hHeld.2.2.2).size)⟩
 clear hK K
 try simp only [zz]
 refine st1 7 (by kernel_rfl) rfl (fun K hK => ?_)
 go_simp
 go_at_call 80
 refine (firstV_any _ _ _ [E1, E2, E3] _ ?_ rfl (by simp)).mono ?_
 · exact Rd.newT (t := 29)
 rintro e v13 ⟨rfl, rfl⟩
 try go_simp
 refine hK.out _ _ ?_ (fun hHeld => ?_)
 · exact hHeld
 clear hK K
 try simp only [zz]
 refine tk 8 8 ?_ rfl (by kernel_rfl) (fun _ _ _ h => h) (by kernel_rfl) ?_ hHeld ?_
 rotate_left
 · intro w1 hSw; (try dsimp only at hSw); go_simp <;> with_reducible rfl
 try simp only [zz]
 refine wpAnyH_done (by kernel_rfl) ?_ _
 rw [← HE.out]
 clear HC1 HC2 HC3 HE
 have HS4 := Lib.hid hHeld
 clear hHeld
 go_upto_region 5 with (first
  | (refine wpList_load_row rfl 69 _ rfl (w.heap.size) rfl 69 #[.int .i64 rs, .int .i64 rf, .int .i64 rl, .int .i64 ra, .int .i64 rb] (0, 0) _ HS4.out.1 Tryz.underlying69 rfl ?_ ?_; (kernel_rfl))
  | (refine wpList_load_row rfl 32 _ rfl (w.heap.size + 1) rfl 32 #[.int .i64 a, .int .i64 b, .int .i64 c, .int .i64 d, .int .i64 x, .int .i64 y] (0, 0) _ HS4.out.2.1 Tryz.underlying32 rfl ?_ ?_; (kernel_rfl))
  | (go_at_call 71; refine (HN.out _).mono ?_; rintro e v4 ⟨rfl, hb4⟩; have HS5 : Hid (Row v4 (w.heap.size) 69 [.int .i64 rs, .int .i64 rf, .int .i64 rl, .int .i64 ra, .int .i64 rb] ∧ Row v4 (w.heap.size + 1) 32 [.int .i64 a, .int .i64 b, .int .i64 c, .int .i64 d, .int .i64 x, .int .i64 y] ∧ RowN v4 (w.heap.size + 1 + 1) 62 2 ∧ Below w.heap.size w v4) := ⟨(HS4.out.1).old hb4, (HS4.out.2.1).old hb4, (HS4.out.2.2.1).old hb4, (HS4.out.2.2.2).trans (hb4.mono (HS4.out.2.2.2).size)⟩; clear hb4)
  | (refine wpList_store_row rfl 124 _ _ rfl (v4.heap.size) #[.int .i64 n, .int .i64 Q] rfl rfl 124 _ (Row.new v4 124 [.int .i64 0, .int .i64 0]) ?_ ?_ ?_ ?_; (kernel_rfl); (rfl); (simp [Value.oneCell'])))
 have hbn : Below v4.heap.size v4 ((v4.alloc (.cells #[.int .i64 0, .int .i64 0] 124)).setRow v4.heap.size #[.int .i64 n, .int .i64 Q]) := Below.setRow ((Below.refl _ _).alloc (Nat.le_refl _) _) (Nat.le_refl _) _
 have hz1 : w.heap.size + 1 + 1 < v4.heap.size := (by obtain ⟨vs, _, h⟩ := HS5.out.2.2.1; exact h.lt)
 refine genT (fun V => Row V (w.heap.size) 69 [.int .i64 rs, .int .i64 rf, .int .i64 rl, .int .i64 ra, .int .i64 rb] ∧ Row V (w.heap.size + 1) 32 [.int .i64 a, .int .i64 b, .int .i64 c, .int .i64 d, .int .i64 x, .int .i64 y] ∧ Row V (v4.heap.size) 124 [.int .i64 n, .int .i64 Q] ∧ RowN V (w.heap.size + 1 + 1) 62 2 ∧ Below w.heap.size w V) ⟨(HS5.out.1).old hbn, (HS5.out.2.1).old hbn, (Row.new v4 124 [.int .i64 0, .int .i64 0]).setRow _, (HS5.out.2.2.1).old hbn, (HS5.out.2.2.2).trans (hbn.mono (HS5.out.2.2.2).size)⟩ ?_
 clear hbn HS5 HS4 HN
 intro W6 s6
 have HS6 := Lib.hid s6
 clear s6
 refine wp_region_held_drew (S := fun V => Row V (w.heap.size) 69 [.int .i64 rs, .int .i64 rf, .int .i64 rl, .int .i64 ra, .int .i64 rb] ∧ Row V (w.heap.size + 1) 32 [.int .i64 a, .int .i64 b, .int .i64 c, .int .i64 d, .int .i64 x, .int .i64 y] ∧ Row V (v4.heap.size) 124 [.int .i64 n, .int .i64 Q] ∧ RowN V (w.heap.size + 1 + 1) 62 2 ∧ Below w.heap.size w V) (by kernel_rfl) ?_ (fun hHeld => ?_)
 · exact ⟨(HS6.out.1).drew, (HS6.out.2.1).drew, (HS6.out.2.2.1).drew, (HS6.out.2.2.2.1).drew, (HS6.out.2.2.2.2).drew⟩
 refine tk 0 25 ?_ rfl (by kernel_rfl) (fun _ _ _ h => h) (by kernel_rfl) ?_ hHeld ?_
 rotate_left
 · intro w1 hSw; (try dsimp only at hSw); go_simp <;> with_reducible rfl
 try simp only [zz]
 refine tk 1 26 ?_ rfl (by kernel_rfl) (fun _ _ _ h => h) (by kernel_rfl) ?_ hHeld ?_
 rotate_left
 · intro w1 hSw; (try dsimp only at hSw); go_simp <;> with_reducible rfl
 try simp only [zz]
 refine tk 2 27 ?_ rfl (by kernel_rfl) (fun _ _ _ h => h) (by kernel_rfl) ?_ hHeld ?_
 rotate_left
 · intro w1 hSw; (try dsimp only at hSw); go_simp <;> with_reducible rfl
 try simp only [zz]
 refine tk 3 28 ?_ rfl (by kernel_rfl) (fun _ _ _ h => h) (by kernel_rfl) ?_ hHeld ?_
 rotate_left
 · intro w1 hSw; (try dsimp only at hSw); go_simp <;> with_reducible rfl
 try simp only [zz]
 refine tk 4 29 ?_ rfl (by kernel_rfl) (fun _ _ _ h => h) (by kernel_rfl) ?_ hHeld ?_
 rotate_left
 · intro w1 hSw; (try dsimp only at hSw); have cc := (hSw.2.1).cell 0; simp only [List.getElem?_cons_succ, List.getElem?_cons_zero] at cc; go_simp <;> with_reducible rfl
 try simp only [zz]
 refine tk 6 31 ?_ rfl (by kernel_rfl) (fun _ _ _ h => h) (by kernel_rfl) ?_ hHeld ?_
 rotate_left
 · intro w1 hSw; (try dsimp only at hSw); go_simp <;> with_reducible rfl
 try simp only [zz]
 refine tk 7 32 ?_ rfl (by kernel_rfl) (fun _ _ _ h => h) (by kernel_rfl) ?_ hHeld ?_
 rotate_left
 · intro w1 hSw; (try dsimp only at hSw); go_simp <;> with_reducible rfl
 try simp only [zz]
 refine tk 8 33 ?_ rfl (by kernel_rfl) (fun _ _ _ h => h) (by kernel_rfl) ?_ hHeld ?_
 rotate_left
 · intro w1 hSw; (try dsimp only at hSw); have cc := (hSw.2.1).cell 1; simp only [List.getElem?_cons_succ, List.getElem?_cons_zero] at cc; go_simp <;> with_reducible rfl
 try simp only [zz]
 refine st1 5 (by kernel_rfl) rfl (fun K hK => ?_)
 go_simp
 go_at_call 98
 refine (HA.out _).mono ?_
 rintro e v5 ⟨rfl, rfl⟩
 try go_simp
 refine hK.out _ _ ?_ (fun hHeld => ?_)
 · exact hHeld
 clear hK K
 try simp only [zz]
 refine st1 9 (by kernel_rfl) rfl (fun K hK => ?_)
 go_simp
 go_at_call 98
 refine (HAB.out _).mono ?_
 rintro e v9 ⟨rfl, rfl⟩
 try go_simp
 refine hK.out _ _ ?_ (fun hHeld => ?_)
 · exact hHeld
 clear hK K
 try simp only [zz]
 refine tk 10 35 ?_ rfl (by kernel_rfl) (fun _ _ _ h => h) (by kernel_rfl) ?_ hHeld ?_
 rotate_left
 · intro w1 hSw; (try dsimp only at hSw); go_simp <;> with_reducible rfl
 try simp only [zz]
 refine tk 11 36 ?_ rfl (by kernel_rfl) (fun _ _ _ h => h) (by kernel_rfl) ?_ hHeld ?_
 rotate_left
 · intro w1 hSw; (try dsimp only at hSw); go_simp <;> with_reducible rfl
 try simp only [zz]
 refine tk 12 10 ?_ rfl (by kernel_rfl) (fun _ _ _ h => h) (by kernel_rfl) ?_ hHeld ?_
 rotate_left
 · intro w1 hSw; (try dsimp only at hSw); go_simp <;> with_reducible rfl
 try simp only [zz]
 refine wpAnyH_done (by kernel_rfl) ?_ _
 have HS7 := Lib.hid hHeld
 clear hHeld
 go_upto_region 6 with fail
 refine wp_region_held_drew (S := fun V => Row V (w.heap.size) 69 [.int .i64 rs, .int .i64 rf, .int .i64 rl, .int .i64 ra, .int .i64 rb] ∧ Row V (w.heap.size + 1) 32 [.int .i64 a, .int .i64 b, .int .i64 c, .int .i64 d, .int .i64 x, .int .i64 y] ∧ Row V (v4.heap.size) 124 [.int .i64 n, .int .i64 Q] ∧ RowN V (w.heap.size + 1 + 1) 62 2 ∧ Below w.heap.size w V) (by kernel_rfl) ?_ (fun hHeld => ?_)
 · exact ⟨(HS7.out.1).drew, (HS7.out.2.1).drew, (HS7.out.2.2.1).drew, (HS7.out.2.2.2.1).drew, (HS7.out.2.2.2.2).drew⟩
 refine tk 0 37 (.agg #[.int .i64 rs, .int .i64 rf, .int .i64 rl, .int .i64 ra, .int .i64 rb]) rfl (by kernel_rfl) (fun _ _ _ h => h) (by kernel_rfl) (fun V hV => ex_rowT 69 _ rfl (w.heap.size) rfl 69 [.int .i64 rs, .int .i64 rf, .int .i64 rl, .int .i64 ra, .int .i64 rb] _ Tryz.underlying69 rfl (by kernel_rfl) (hV.1)) hHeld ?_
 try simp only [zz]
 refine tk 1 38 ?_ rfl (by kernel_rfl) (fun _ _ _ h => h) (by kernel_rfl) ?_ hHeld ?_
 rotate_left
 · intro w1 hSw; (try dsimp only at hSw); go_simp <;> with_reducible rfl
 try simp only [zz]
 refine tk 2 39 ?_ rfl (by kernel_rfl) (fun _ _ _ h => h) (by kernel_rfl) ?_ hHeld ?_
 rotate_left
 · intro w1 hSw; (try dsimp only at hSw); have cc := (hSw.2.2.1).cell 0; simp only [List.getElem?_cons_succ, List.getElem?_cons_zero] at cc; go_simp <;> with_reducible rfl
 try simp only [zz]
 refine tk 3 40 ?_ rfl (by kernel_rfl) (fun _ _ _ h => h) (by kernel_rfl) ?_ hHeld ?_
 rotate_left
 · intro w1 hSw; (try dsimp only at hSw); go_simp <;> with_reducible rfl
 try simp only [zz]
 refine tk 4 41 ?_ rfl (by kernel_rfl) (fun _ _ _ h => h) (by kernel_rfl) ?_ hHeld ?_
 rotate_left
 · intro w1 hSw; (try dsimp only at hSw); go_simp <;> with_reducible rfl
 try simp only [zz]
 refine tk 5 42 ?_ rfl (by kernel_rfl) (fun _ _ _ h => h) (by kernel_rfl) ?_ hHeld ?_
 rotate_left
 · intro w1 hSw; (try dsimp only at hSw); go_simp <;> with_reducible rfl
 try simp only [zz]
 refine tk 6 43 ?_ rfl (by kernel_rfl) (fun _ _ _ h => h) (by kernel_rfl) ?_ hHeld ?_
 rotate_left
 · intro w1 hSw; (try dsimp only at hSw); have cc := (hSw.2.2.1).cell 1; simp only [List.getElem?_cons_succ, List.getElem?_cons_zero] at cc; go_simp <;> with_reducible rfl
 try simp only [zz]
 refine tk 7 44 ?_ rfl (by kernel_rfl) (fun _ _ _ h => h) (by kernel_rfl) ?_ hHeld ?_
 rotate_left
 · intro w1 hSw; (try dsimp only at hSw); go_simp <;> with_reducible rfl
 try simp only [zz]
 refine tk 9 46 (.agg #[.int .i64 rs, .int .i64 rf, .int .i64 rl, .int .i64 ra, .int .i64 rb]) rfl (by kernel_rfl) (fun _ _ _ h => h) (by kernel_rfl) (fun V hV => ex_rowT 69 _ rfl (w.heap.size) rfl 69 [.int .i64 rs, .int .i64 rf, .int .i64 rl, .int .i64 ra, .int .i64 rb] _ Tryz.underlying69 rfl (by kernel_rfl) (hV.1)) hHeld ?_
 try simp only [zz]
 refine tk 10 47 ?_ rfl (by kernel_rfl) (fun _ _ _ h => h) (by kernel_rfl) ?_ hHeld ?_
 rotate_left
 · intro w1 hSw; (try dsimp only at hSw); go_simp <;> with_reducible rfl
 try simp only [zz]
 refine tk 11 48 ?_ rfl (by kernel_rfl) (fun _ _ _ h => h) (by kernel_rfl) ?_ hHeld ?_
 rotate_left
 · intro w1 hSw; (try dsimp only at hSw); have cc := (hSw.2.2.1).cell 0; simp only [List.getElem?_cons_succ, List.getElem?_cons_zero] at cc; go_simp <;> with_reducible rfl
 try simp only [zz]
 refine tk 12 49 ?_ rfl (by kernel_rfl) (fun _ _ _ h => h) (by kernel_rfl) ?_ hHeld ?_
 rotate_left
 · intro w1 hSw; (try dsimp only at hSw); go_simp <;> with_reducible rfl
 try simp only [zz]
 refine tk 13 50 ?_ rfl (by kernel_rfl) (fun _ _ _ h => h) (by kernel_rfl) ?_ hHeld ?_
 rotate_left
 · intro w1 hSw; (try dsimp only at hSw); go_simp <;> with_reducible rfl
 try simp only [zz]
 refine tk 14 51 ?_ rfl (by kernel_rfl) (fun _ _ _ h => h) (by kernel_rfl) ?_ hHeld ?_
 rotate_left
 · intro w1 hSw; (try dsimp only at hSw); go_simp <;> with_reducible rfl
 try simp only [zz]
 refine tk 15 52 ?_ rfl (by kernel_rfl) (fun _ _ _ h => h) (by kernel_rfl) ?_ hHeld ?_
 rotate_left
 · intro w1 hSw; (try dsimp only at hSw); have cc := (hSw.2.2.1).cell 1; simp only [List.getElem?_cons_succ, List.getElem?_cons_zero] at cc; go_simp <;> with_reducible rfl
 try simp only [zz]
 refine tk 16 53 ?_ rfl (by kernel_rfl) (fun _ _ _ h => h) (by kernel_rfl) ?_ hHeld ?_
 rotate_left
 · intro w1 hSw; (try dsimp only at hSw); go_simp <;> with_reducible rfl
 try simp only [zz]
 refine st1 8 (by kernel_rfl) rfl (fun K hK => ?_)
 go_simp
 go_at_call 99
 refine (HP.out _).mono ?_
 rintro e v8 ⟨rfl, hb8⟩
 try go_simp
 refine hK.out _ _ ?_ (fun hHeld => ?_)
 · exact ⟨(hHeld.1).old hb8, (hHeld.2.1).old hb8, (hHeld.2.2.1).old hb8, (hHeld.2.2.2.1).old hb8, (hHeld.2.2.2.2).trans ((hb8).mono (hHeld.2.2.2.2).size)⟩
 clear hK K
 try simp only [zz]
 refine st1 17 (by kernel_rfl) rfl (fun K hK => ?_)
 go_simp
 go_at_call 99
 refine (HQ.out _).mono ?_
 rintro e v17 ⟨rfl, hb17⟩
 try go_simp
 refine hK.out _ _ ?_ (fun hHeld => ?_)
 · exact ⟨(hHeld.1).old hb17, (hHeld.2.1).old hb17, (hHeld.2.2.1).old hb17, (hHeld.2.2.2.1).old hb17, (hHeld.2.2.2.2).trans ((hb17).mono (hHeld.2.2.2.2).size)⟩
 clear hK K
 try simp only [zz]
 refine tk 18 55 ?_ rfl (by kernel_rfl) (fun _ _ _ h => h) (by kernel_rfl) ?_ hHeld ?_
 rotate_left
 · intro w1 hSw; (try dsimp only at hSw); go_simp <;> with_reducible rfl
 try simp only [zz]
 refine st1 19 (by kernel_rfl) rfl (fun K hK => ?_)
 obtain ⟨vs, hvl, hvr⟩ := (hHeld.2.2.2.1)
 have hLast := hHeld
 refine step_store_row rfl 62 _ _ rfl (w.heap.size + 1 + 1) [.int .i64 p, .int .i64 q] rfl rfl 62 vs hvr (by kernel_rfl) hvl (by simp [Value.oneCell']) ?_
 refine hK.out _ _ ?_ (fun hHeld => ?_)
 · exact ⟨(hHeld.1).farRow (by omega) _, (hHeld.2.1).farRow (by omega) _, (hHeld.2.2.1).farRow (by omega) _, ⟨_, rfl, hvr.setRow _⟩, Below.setRow (hHeld.2.2.2.2) (by omega) _⟩
 clear hK K
 try simp only [zz]
 refine tk 20 7 ?_ rfl (by kernel_rfl) (fun _ _ _ h => h) (by kernel_rfl) ?_ hHeld ?_
 rotate_left
 · intro w1 hSw; (try dsimp only at hSw); go_simp <;> with_reducible rfl
 try simp only [zz]
 refine wpAnyH_done (by kernel_rfl) ?_ _
 go_wp2_with fail
 refine bodyPost_ret (results_rt rfl _ _ (w.heap.size + 1 + 1) 62 #[.int .i64 p, .int .i64 q] (0, 0) _ rfl (hvr.setRow [.int .i64 p, .int .i64 q]) Tryz.underlying62 rfl (by kernel_rfl)) rfl ⟨rfl, Below.setRow hLast.2.2.2.2 (by omega) _⟩
end Go.Proofs.YtcaekblnioidiaaGreatDoor
