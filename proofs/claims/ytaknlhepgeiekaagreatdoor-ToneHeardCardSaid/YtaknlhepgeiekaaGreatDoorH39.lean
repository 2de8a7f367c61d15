import Derived.Test.YtaknlhepgeiekaaGreatDoorH31
namespace Go.Proofs.YtaknlhepgeiekaaGreatDoor
set_option linter.all false
open Go.RowKit Go.Fl
set_option maxRecDepth 100000
set_option maxHeartbeats 1000000
theorem lost_any (rs rf rl ra rb a b c d x y n Q t : Int) (w : World) (h1 : Gs a b) (h2 : Gs c d) (h3 : Gs x y) (hs : 1 ≤ rs ∧ rs ≤ 1000) (hf : 1 ≤ rf ∧ rf ≤ 1000) (hn : n = c * a + d * b - (x * a + y * b)) (hQ : Q = a * a + b * b) (bn : n.natAbs ≤ 1000000000) (bQ : 0 < Q ∧ Q ≤ 1000000000) (ht : 0 ≤ t ∧ t ≤ 1000) : Calls Tryz.prog 89 #[.agg #[.int .i64 rs, .int .i64 rf, .int .i64 rl, .int .i64 ra, .int .i64 rb], .agg #[.int .i64 a, .int .i64 b, .int .i64 c, .int .i64 d, .int .i64 x, .int .i64 y], .int .i64 t] w fun e w' => e = .returned (.int .i64 (shownI rs rf (n * (1000 - t)) (Q * 1000))) ∧ Below w.heap.size w w' := by
 obtain ⟨s, hs0⟩ : ∃ s, s = 1000 - t := ⟨_, rfl⟩
 have bs : 0 ≤ s ∧ s ≤ 1000 := by omega
 have b1 : (n * s).natAbs ≤ 1000000000 * 1000 := by rw [Int.natAbs_mul]; exact Nat.mul_le_mul bn (by omega)
 have e1 : IntKind.i64.wrap (1000 - t) = s := by rw [hs0]; exact IntWalk.i64_in _ (by omega)
 rw [← hs0]
 have HN : Hid (∀ W, Calls Tryz.prog 61 #[.agg #[.int .i64 a, .int .i64 b, .int .i64 c, .int .i64 d, .int .i64 x, .int .i64 y]] W fun e w' => e = .returned (.agg #[.int .i64 n, .int .i64 Q]) ∧ Below W.heap.size W w') := fun W => by rw [hn, hQ]; exact needle_any a b c d x y W h1 h2 h3
 have HT : Hid (∀ W, Calls Tryz.prog 134 #[.agg #[.int .i64 n, .int .i64 Q], .agg #[.int .i64 s, .int .i64 1000]] W fun e w' => e = .returned (.agg #[.int .i64 (n * s), .int .i64 (Q * 1000)]) ∧ Below W.heap.size W w') := fun W => timesQ_any n Q s 1000 W (by omega) (by omega)
 have HW : Hid (∀ W, Calls Tryz.prog 92 #[.agg #[.int .i64 rs, .int .i64 rf, .int .i64 rl, .int .i64 ra, .int .i64 rb], .agg #[.int .i64 (n * s), .int .i64 (Q * 1000)]] W fun e w' => e = .returned (.int .i64 (shownI rs rf (n * s) (Q * 1000))) ∧ Below W.heap.size W w') := fun W => shown_any rs rf rl ra rb (n * s) (Q * 1000) W hs hf (by omega) (by omega)
 obtain ⟨v, hv⟩ : ∃ v, v = shownI rs rf (n * s) (Q * 1000) := ⟨_, rfl⟩
 obtain ⟨N, hN⟩ : ∃ N, N = n * s := ⟨_, rfl⟩
 obtain ⟨D, hD⟩ : ∃ D, D = Q * 1000 := ⟨_, rfl⟩
 rw [← hv] at HW ⊢
 rw [← hN, ← hD] at HT HW
 clear h1 h2 h3 hs hf hn hQ bn bQ ht bs b1 hs0 hv hN hD
 go_enter Tryz.func89, Tryz.ntmps89
 go_upto_region 1 with fail
 refine genT (fun V => Row V (w.heap.size) 87 [.int .i64 rs, .int .i64 rf, .int .i64 rl, .int .i64 ra, .int .i64 rb] ∧ Row V (w.heap.size + 1) 35 [.int .i64 a, .int .i64 b, .int .i64 c, .int .i64 d, .int .i64 x, .int .i64 y] ∧ Below w.heap.size w V) ⟨(Row.alloc (rowAt _ _ (by first | rfl | simp only [World.size_alloc])) _), (rowAt _ _ (by first | rfl | simp only [World.size_alloc])), (((Below.refl _ _).alloc (by first | exact Nat.le_refl _ | (simp only [World.size_alloc]; omega)) _).alloc (by first | exact Nat.le_refl _ | (simp only [World.size_alloc]; omega)) _)⟩ ?_
 intro W1 s1
 have HS1 := Lib.hid s1
 clear s1
 refine wp_region_held_drew (S := fun V => Row V (w.heap.size) 87 [.int .i64 rs, .int .i64 rf, .int .i64 rl, .int .i64 ra, .int .i64 rb] ∧ Row V (w.heap.size + 1) 35 [.int .i64 a, .int .i64 b, .int .i64 c, .int .i64 d, .int .i64 x, .int .i64 y] ∧ Below w.heap.size w V) (by kernel_rfl) ?_ (fun hHeld => ?_)
 · exact ⟨(HS1.out.1).drew, (HS1.out.2.1).drew, (HS1.out.2.2).drew⟩
 refine tk 0 7 (.agg #[.int .i64 rs, .int .i64 rf, .int .i64 rl, .int .i64 ra, .int .i64 rb]) rfl (by kernel_rfl) (fun _ _ _ h => h) (by kernel_rfl) (fun V hV => ex_rowT 87 _ rfl (w.heap.size) rfl 87 [.int .i64 rs, .int .i64 rf, .int .i64 rl, .int .i64 ra, .int .i64 rb] _ Tryz.underlying87 rfl (by kernel_rfl) (hV.1)) hHeld ?_
 try simp only [zz]
 refine tk 1 8 (.agg #[.int .i64 a, .int .i64 b, .int .i64 c, .int .i64 d, .int .i64 x, .int .i64 y]) rfl (by kernel_rfl) (fun _ _ _ h => h) (by kernel_rfl) (fun V hV => ex_rowT 35 _ rfl (w.heap.size + 1) rfl 35 [.int .i64 a, .int .i64 b, .int .i64 c, .int .i64 d, .int .i64 x, .int .i64 y] _ Tryz.underlying35 rfl (by kernel_rfl) (hV.2.1)) hHeld ?_
 try simp only [zz]
 refine ta 3 10 hHeld ?_
 try simp only [zz]
 refine ta 4 11 hHeld ?_
 try simp only [zz]
 refine ta 5 12 hHeld ?_
 try simp only [zz]
 refine st2 2 (fun K hK => ?_)
 go_simp
 go_at_call 61
 refine (HN.out _).mono ?_
 rintro e v2 ⟨rfl, hb2⟩
 try go_simp
 refine hK.out _ _ ?_ (fun hHeld => ?_)
 · exact ⟨(hHeld.1).old hb2, (hHeld.2.1).old hb2, (hHeld.2.2).trans ((hb2).mono (hHeld.2.2).size)⟩
 clear hK K
 try simp only [zz]
 refine st2 6 (fun K hK => ?_)
 go_simp
 go_at_call 134
 refine (HT.out _).mono ?_
 rintro e v6 ⟨rfl, hb6⟩
 try go_simp
 refine hK.out _ _ ?_ (fun hHeld => ?_)
 · exact ⟨(hHeld.1).old hb6, (hHeld.2.1).old hb6, (hHeld.2.2).trans ((hb6).mono (hHeld.2.2).size)⟩
 clear hK K
 try simp only [zz]
 refine st2 7 (fun K hK => ?_)
 go_simp
 go_at_call 92
 refine (HW.out _).mono ?_
 rintro e v7 ⟨rfl, hb7⟩
 try go_simp
 refine hK.out _ _ ?_ (fun hHeld => ?_)
 · exact ⟨(hHeld.1).old hb7, (hHeld.2.1).old hb7, (hHeld.2.2).trans ((hb7).mono (hHeld.2.2).size)⟩
 clear hK K
 try simp only [zz]
 refine ta 8 6 hHeld ?_
 try simp only [zz]
 refine wpAnyH_done (by kernel_rfl) ?_ _
 go_wp2_with fail
 go_ret
 exact ⟨rfl, hHeld.2.2⟩
theorem lostT_ok (rs rf rl ra rb a b c d x y lo hi E : Int) (w : World) (hE : E = firstI [recE rs rf rl ra rb, sigE a b c d x y, ivE lo hi 0 1000]) (h0 : E = 0) (p q : Int) (HP : ∀ W, Calls Tryz.prog 89 #[.agg #[.int .i64 rs, .int .i64 rf, .int .i64 rl, .int .i64 ra, .int .i64 rb], .agg #[.int .i64 a, .int .i64 b, .int .i64 c, .int .i64 d, .int .i64 x, .int .i64 y], .int .i64 lo] W fun e w' => e = .returned (.int .i64 p) ∧ Below W.heap.size W w') (HQ : ∀ W, Calls Tryz.prog 89 #[.agg #[.int .i64 rs, .int .i64 rf, .int .i64 rl, .int .i64 ra, .int .i64 rb], .agg #[.int .i64 a, .int .i64 b, .int .i64 c, .int .i64 d, .int .i64 x, .int .i64 y], .int .i64 hi] W fun e w' => e = .returned (.int .i64 q) ∧ Below W.heap.size W w') : Calls Tryz.prog 36 #[.agg #[.int .i64 rs, .int .i64 rf, .int .i64 rl, .int .i64 ra, .int .i64 rb], .agg #[.int .i64 a, .int .i64 b, .int .i64 c, .int .i64 d, .int .i64 x, .int .i64 y], .agg #[.int .i64 lo, .int .i64 hi]] w fun e w' => e = .returned (.tuple #[.agg #[.int .i64 (minL [p, q]), .int .i64 (maxL [p, q])], .int .i64 0]) ∧ Below w.heap.size w w' := by
 have HP := Lib.hid HP; have HQ := Lib.hid HQ
 have HC1 : Hid (∀ W, Calls Tryz.prog 84 #[.agg #[.int .i64 rs, .int .i64 rf, .int .i64 rl, .int .i64 ra, .int .i64 rb]] W fun e w' => e = .returned (.int .i64 (recE rs rf rl ra rb)) ∧ Below W.heap.size W w') := fun W => checkReceiver_any rs rf rl ra rb W
 have HC2 : Hid (∀ W, Calls Tryz.prog 44 #[.agg #[.int .i64 a, .int .i64 b, .int .i64 c, .int .i64 d, .int .i64 x, .int .i64 y]] W fun e w' => e = .returned (.int .i64 (sigE a b c d x y)) ∧ Below W.heap.size W w') := fun W => checkSignal_any a b c d x y W
 have HC3 : Hid (∀ W, Calls Tryz.prog 88 #[.agg #[.int .i64 lo, .int .i64 hi], .int .i64 0, .int .i64 1000] W fun e w' => e = .returned (.int .i64 (ivE lo hi 0 1000)) ∧ Below W.heap.size W w') := fun W => checkInterval_any lo hi 0 1000 W
 obtain ⟨E1, hE1⟩ : ∃ E1, E1 = recE rs rf rl ra rb := ⟨_, rfl⟩
 obtain ⟨E2, hE2⟩ : ∃ E2, E2 = sigE a b c d x y := ⟨_, rfl⟩
 obtain ⟨E3, hE3⟩ : ∃ E3, E3 = ivE lo hi 0 1000 := ⟨_, rfl⟩
 rw [← hE1] at HC1 hE
 rw [← hE2] at HC2 hE
 rw [← hE3] at HC3 hE
 have HE := Lib.hid hE
 have hne : (E == 0) = true := by simpa using h0
 have hne2 : (E != 0) = false := by simpa using h0
 clear hE hE1 hE2 hE3 h0
 obtain ⟨mn, hmn⟩ : ∃ mn, mn = minL [p, q] := ⟨_, rfl⟩
 obtain ⟨mx, hmx⟩ : ∃ mx, mx = maxL [p, q] := ⟨_, rfl⟩
 have HR : Hid (∀ W g, Row W g 3 [.int .i64 p, .int .i64 q] → Calls Tryz.prog 90 #[.slice (some ⟨g, 0, none⟩) 2 2] W fun e w' => e = .returned (.agg #[.int .i64 mn, .int .i64 mx]) ∧ Below W.heap.size W w') := fun W g h => by rw [hmn, hmx]; exact reach_any _ 2 2 [p, q] W (Rd.row h) rfl (by simp) (by simp)
 rw [← hmn, ← hmx]
 clear hmn hmx
 go_enter Tryz.func36, Tryz.ntmps36
 go_upto_region 1 with fail
 refine genT (fun V => Row V (w.heap.size) 87 [.int .i64 rs, .int .i64 rf, .int .i64 rl, .int .i64 ra, .int .i64 rb] ∧ Row V (w.heap.size + 1) 35 [.int .i64 a, .int .i64 b, .int .i64 c, .int .i64 d, .int .i64 x, .int .i64 y] ∧ Row V (w.heap.size + 1 + 1) 85 [.int .i64 lo, .int .i64 hi] ∧ Row V (w.heap.size + 1 + 1 + 1) 85 [.int .i64 0, .int .i64 0] ∧ Below w.heap.size w V) ⟨(Row.alloc (Row.alloc (Row.alloc (rowAt _ _ (by first | rfl | simp only [World.size_alloc])) _) _) _), (Row.alloc (Row.alloc (rowAt _ _ (by first | rfl | simp only [World.size_alloc])) _) _), (Row.alloc (rowAt _ _ (by first | rfl | simp only [World.size_alloc])) _), (rowAt _ _ (by first | rfl | simp only [World.size_alloc])), (((((Below.refl _ _).alloc (by first | exact Nat.le_refl _ | (simp only [World.size_alloc]; omega)) _).alloc (by first | exact Nat.le_refl _ | (simp only [World.size_alloc]; omega)) _).alloc (by first | exact Nat.le_refl _ | (simp only [World.size_alloc]; omega)) _).alloc (by first | exact Nat.le_refl _ | (simp only [World.size_alloc]; omega)) _)⟩ ?_
 intro W1 s1
 have HS1 : Hid (Row W1 (w.heap.size) 87 [.int .i64 rs, .int .i64 rf, .int .i64 rl, .int .i64 ra, .int .i64 rb] ∧ Row W1 (w.heap.size + 1) 35 [.int .i64 a, .int .i64 b, .int .i64 c, .int .i64 d, .int .i64 x, .int .i64 y] ∧ Row W1 (w.heap.size + 1 + 1) 85 [.int .i64 lo, .int .i64 hi] ∧ RowN W1 (w.heap.size + 1 + 1 + 1) 85 2 ∧ Below w.heap.size w W1) := ⟨s1.1, s1.2.1, s1.2.2.1, ⟨_, rfl, s1.2.2.2.1⟩, s1.2.2.2.2⟩
 clear s1
 refine wp_region_held_drew (S := fun V => Row V (w.heap.size) 87 [.int .i64 rs, .int .i64 rf, .int .i64 rl, .int .i64 ra, .int .i64 rb] ∧ Row V (w.heap.size + 1) 35 [.int .i64 a, .int .i64 b, .int .i64 c, .int .i64 d, .int .i64 x, .int .i64 y] ∧ Row V (w.heap.size + 1 + 1) 85 [.int .i64 lo, .int .i64 hi] ∧ RowN V (w.heap.size + 1 + 1 + 1) 85 2 ∧ Below w.heap.size w V) (by kernel_rfl) ?_ (fun hHeld => ?_)
 · exact ⟨(HS1.out.1).drew, (HS1.out.2.1).drew, (HS1.out.2.2.1).drew, (HS1.out.2.2.2.1).drew, (HS1.out.2.2.2.2).drew⟩
 refine tk 0 11 (.agg #[.int .i64 rs, .int .i64 rf, .int .i64 rl, .int .i64 ra, .int .i64 rb]) rfl (by kernel_rfl) (fun _ _ _ h => h) (by kernel_rfl) (fun V hV => ex_rowT 87 _ rfl (w.heap.size) rfl 87 [.int .i64 rs, .int .i64 rf, .int .i64 rl, .int .i64 ra, .int .i64 rb] _ Tryz.underlying87 rfl (by kernel_rfl) (hV.1)) hHeld ?_
 try simp only [zz]
 refine tk 2 13 (.agg #[.int .i64 a, .int .i64 b, .int .i64 c, .int .i64 d, .int .i64 x, .int .i64 y]) rfl (by kernel_rfl) (fun _ _ _ h => h) (by kernel_rfl) (fun V hV => ex_rowT 35 _ rfl (w.heap.size + 1) rfl 35 [.int .i64 a, .int .i64 b, .int .i64 c, .int .i64 d, .int .i64 x, .int .i64 y] _ Tryz.underlying35 rfl (by kernel_rfl) (hV.2.1)) hHeld ?_
 try simp only [zz]
 refine tk 4 15 (.agg #[.int .i64 lo, .int .i64 hi]) rfl (by kernel_rfl) (fun _ _ _ h => h) (by kernel_rfl) (fun V hV => ex_rowT 85 _ rfl (w.heap.size + 1 + 1) rfl 85 [.int .i64 lo, .int .i64 hi] _ Tryz.underlying85 rfl (by kernel_rfl) (hV.2.2.1)) hHeld ?_
 try simp only [zz]
 refine st2 1 (fun K hK => ?_)
 go_simp
 go_at_call 84
 refine (HC1.out _).mono ?_
 rintro e v1 ⟨rfl, hb1⟩
 try go_simp
 refine hK.out _ _ ?_ (fun hHeld => ?_)
 · exact ⟨(hHeld.1).old hb1, (hHeld.2.1).old hb1, (hHeld.2.2.1).old hb1, (hHeld.2.2.2.1).old hb1, (hHeld.2.2.2.2).trans ((hb1).mono (hHeld.2.2.2.2).size)⟩
 clear hK K
 try simp only [zz]
 refine st2 3 (fun K hK => ?_)
 go_simp
 go_at_call 44
 refine (HC2.out _).mono ?_
 rintro e v3 ⟨rfl, hb3⟩
 try go_simp
 refine hK.out _ _ ?_ (fun hHeld => ?_)
 · exact ⟨(hHeld.1).old hb3, (hHeld.2.1).old hb3, (hHeld.2.2.1).old hb3, (hHeld.2.2.2.1).old hb3, (hHeld.2.2.2.2).trans ((hb3).mono (hHeld.2.2.2.2).size)⟩
 clear hK K
 try simp only [zz]
 refine st2 5 (fun K hK => ?_)
 go_simp
 go_at_call 88
 refine (HC3.out _).mono ?_
 rintro e v5 ⟨rfl, hb5⟩
 try go_simp
 refine hK.out _ _ ?_ (fun hHeld => ?_)
 · exact ⟨(hHeld.1).old hb5, (hHeld.2.1).old hb5, (hHeld.2.2.1).old hb5, (hHeld.2.2.2.1).old hb5, (hHeld.2.2.2.2).trans ((hb5).mono (hHeld.2.2.2.2).size)⟩
 clear hK K
 try simp only [zz]
 refine st2 6 (fun K hK => ?_)
 go_simp
 refine hK.out _ _ ?_ (fun hHeld => ?_)
 · exact ⟨(hHeld.1).old ((Below.refl _ _).alloc (Nat.le_refl _) _), (hHeld.2.1).old ((Below.refl _ _).alloc (Nat.le_refl _) _), (hHeld.2.2.1).old ((Below.refl _ _).alloc (Nat.le_refl _) _), (hHeld.2.2.2.1).old ((Below.refl _ _).alloc (Nat.le_refl _) _), (hHeld.2.2.2.2).trans ((((Below.refl _ _).alloc (Nat.le_refl _) _)).mono (hHeld.2.2.2.2).size)⟩
 clear hK K
 try simp only [zz]
 refine st2 7 (fun K hK => ?_)
 go_simp
 go_at_call 64
 refine (firstV_any _ _ _ [E1, E2, E3] _ ?_ rfl (by simp)).mono ?_
 · exact Rd.newT (t := 32)
 rintro e v13 ⟨rfl, rfl⟩
 try go_simp
 refine hK.out _ _ ?_ (fun hHeld => ?_)
 · exact hHeld
 clear hK K
 try simp only [zz]
 refine ta 8 8 hHeld ?_
 try simp only [zz]
 refine wpAnyH_done (by kernel_rfl) ?_ _
 rw [← HE.out]
 clear HC1 HC2 HC3 HE
 have HS4 := Lib.hid hHeld
 clear hHeld
 go_upto_region 4 with fail
 have HS5 : Hid _ := HS4.out
 clear HS4
 refine wp_region_held_drew (S := fun V => Row V (w.heap.size) 87 [.int .i64 rs, .int .i64 rf, .int .i64 rl, .int .i64 ra, .int .i64 rb] ∧ Row V (w.heap.size + 1) 35 [.int .i64 a, .int .i64 b, .int .i64 c, .int .i64 d, .int .i64 x, .int .i64 y] ∧ Row V (w.heap.size + 1 + 1) 85 [.int .i64 lo, .int .i64 hi] ∧ RowN V (w.heap.size + 1 + 1 + 1) 85 2 ∧ Below w.heap.size w V) (by kernel_rfl) ?_ (fun hHeld => ?_)
 · exact ⟨(HS5.out.1).drew, (HS5.out.2.1).drew, (HS5.out.2.2.1).drew, (HS5.out.2.2.2.1).drew, (HS5.out.2.2.2.2).drew⟩
 refine tk 0 23 (.agg #[.int .i64 rs, .int .i64 rf, .int .i64 rl, .int .i64 ra, .int .i64 rb]) rfl (by kernel_rfl) (fun _ _ _ h => h) (by kernel_rfl) (fun V hV => ex_rowT 87 _ rfl (w.heap.size) rfl 87 [.int .i64 rs, .int .i64 rf, .int .i64 rl, .int .i64 ra, .int .i64 rb] _ Tryz.underlying87 rfl (by kernel_rfl) (hV.1)) hHeld ?_
 try simp only [zz]
 refine tk 1 24 (.agg #[.int .i64 a, .int .i64 b, .int .i64 c, .int .i64 d, .int .i64 x, .int .i64 y]) rfl (by kernel_rfl) (fun _ _ _ h => h) (by kernel_rfl) (fun V hV => ex_rowT 35 _ rfl (w.heap.size + 1) rfl 35 [.int .i64 a, .int .i64 b, .int .i64 c, .int .i64 d, .int .i64 x, .int .i64 y] _ Tryz.underlying35 rfl (by kernel_rfl) (hV.2.1)) hHeld ?_
 try simp only [zz]
 refine ta 2 25 hHeld ?_
 try simp only [zz]
 refine tk 3 26 ?_ rfl (by kernel_rfl) (fun _ _ _ h => h) (by kernel_rfl) ?_ hHeld ?_
 rotate_left
 · intro w1 hSw; (try dsimp only at hSw); have cc := (hSw.2.2.1).cell 0; simp only [List.getElem?_cons_succ, List.getElem?_cons_zero] at cc; go_simp <;> with_reducible rfl
 try simp only [zz]
 refine tk 5 28 (.agg #[.int .i64 rs, .int .i64 rf, .int .i64 rl, .int .i64 ra, .int .i64 rb]) rfl (by kernel_rfl) (fun _ _ _ h => h) (by kernel_rfl) (fun V hV => ex_rowT 87 _ rfl (w.heap.size) rfl 87 [.int .i64 rs, .int .i64 rf, .int .i64 rl, .int .i64 ra, .int .i64 rb] _ Tryz.underlying87 rfl (by kernel_rfl) (hV.1)) hHeld ?_
 try simp only [zz]
 refine tk 6 29 (.agg #[.int .i64 a, .int .i64 b, .int .i64 c, .int .i64 d, .int .i64 x, .int .i64 y]) rfl (by kernel_rfl) (fun _ _ _ h => h) (by kernel_rfl) (fun V hV => ex_rowT 35 _ rfl (w.heap.size + 1) rfl 35 [.int .i64 a, .int .i64 b, .int .i64 c, .int .i64 d, .int .i64 x, .int .i64 y] _ Tryz.underlying35 rfl (by kernel_rfl) (hV.2.1)) hHeld ?_
 try simp only [zz]
 refine ta 7 30 hHeld ?_
 try simp only [zz]
 refine tk 8 31 ?_ rfl (by kernel_rfl) (fun _ _ _ h => h) (by kernel_rfl) ?_ hHeld ?_
 rotate_left
 · intro w1 hSw; (try dsimp only at hSw); have cc := (hSw.2.2.1).cell 1; simp only [List.getElem?_cons_succ, List.getElem?_cons_zero] at cc; go_simp <;> with_reducible rfl
 try simp only [zz]
 refine st2 4 (fun K hK => ?_)
 go_simp
 go_at_call 89
 refine (HP.out _).mono ?_
 rintro e v4 ⟨rfl, hb4⟩
 try go_simp
 refine hK.out _ _ ?_ (fun hHeld => ?_)
 · exact ⟨(hHeld.1).old hb4, (hHeld.2.1).old hb4, (hHeld.2.2.1).old hb4, (hHeld.2.2.2.1).old hb4, (hHeld.2.2.2.2).trans ((hb4).mono (hHeld.2.2.2.2).size)⟩
 clear hK K
 try simp only [zz]
 refine st2 9 (fun K hK => ?_)
 go_simp
 go_at_call 89
 refine (HQ.out _).mono ?_
 rintro e v9 ⟨rfl, hb9⟩
 try go_simp
 refine hK.out _ _ ?_ (fun hHeld => ?_)
 · exact ⟨(hHeld.1).old hb9, (hHeld.2.1).old hb9, (hHeld.2.2.1).old hb9, (hHeld.2.2.2.1).old hb9, (hHeld.2.2.2.2).trans ((hb9).mono (hHeld.2.2.2.2).size)⟩
 clear hK K
 try simp only [zz]
 refine ta 10 9 hHeld ?_
 try simp only [zz]
 refine ta 11 10 hHeld ?_
 try simp only [zz]
 refine wpAnyH_done (by kernel_rfl) ?_ _
 obtain ⟨vs, hvl, hvr⟩ := hHeld.2.2.2.1
 have HB := Lib.hid (hHeld.2.2.2.2)
 have HV := Lib.hid hvr
 clear hHeld hvr
 go_wp2_with (first
  | (go_at_call 90; refine (HR.out _ _ (Row.new _ _ _)).mono ?_; rintro e v3 ⟨rfl, hb3⟩; have HV3 := Lib.hid ((HV.out.alloc _).old hb3); have HB3 := Lib.hid ((HB.out.alloc HB.out.size _).trans (hb3.mono (HB.out.alloc HB.out.size _).size)); clear hb3)
  | (refine wpList_store_row rfl 85 _ _ rfl (w.heap.size + 1 + 1 + 1) #[.int .i64 mn, .int .i64 mx] rfl rfl 85 _ HV3.out ?_ ?_ ?_ ?_; (kernel_rfl); (exact hvl); (simp [Value.oneCell'])))
 refine bodyPost_ret (results_rt rfl _ _ (w.heap.size + 1 + 1 + 1) 85 #[.int .i64 mn, .int .i64 mx] (0, 0) _ rfl (HV3.out.setRow [.int .i64 mn, .int .i64 mx]) Tryz.underlying85 rfl (by kernel_rfl)) rfl ⟨rfl, Below.setRow HB3.out (by omega) _⟩
set_option maxRecDepth 100000 in
set_option maxHeartbeats 1000000 in
theorem noisyT_ok (rs rf rl ra rb a b c d x y t E : Int) (w : World) (hE : E = firstI [recE rs rf rl ra rb, sigE a b c d x y, whenI (rangeB t 0 1000) 3]) (h0 : E = 0) (n Q by0 p q : Int) (bn : n.natAbs ≤ 1000000000) (bb : 0 ≤ by0 ∧ by0 ≤ 100000000) (hby : by0 = 2 * t * (max a (-a) + max b (-b))) (ht : 0 ≤ t ∧ t ≤ 1000) (ha : a.natAbs ≤ 10000) (hb : b.natAbs ≤ 10000) (HN : ∀ W, Calls Tryz.prog 61 #[.agg #[.int .i64 a, .int .i64 b, .int .i64 c, .int .i64 d, .int .i64 x, .int .i64 y]] W fun e w' => e = .returned (.agg #[.int .i64 n, .int .i64 Q]) ∧ Below W.heap.size W w') (HP : ∀ W, Calls Tryz.prog 92 #[.agg #[.int .i64 rs, .int .i64 rf, .int .i64 rl, .int .i64 ra, .int .i64 rb], .agg #[.int .i64 (n - by0), .int .i64 Q]] W fun e w' => e = .returned (.int .i64 p) ∧ Below W.heap.size W w') (HQ : ∀ W, Calls Tryz.prog 92 #[.agg #[.int .i64 rs, .int .i64 rf, .int .i64 rl, .int .i64 ra, .int .i64 rb], .agg #[.int .i64 (n + by0), .int .i64 Q]] W fun e w' => e = .returned (.int .i64 q) ∧ Below W.heap.size W w') : Calls Tryz.prog 38 #[.agg #[.int .i64 rs, .int .i64 rf, .int .i64 rl, .int .i64 ra, .int .i64 rb], .agg #[.int .i64 a, .int .i64 b, .int .i64 c, .int .i64 d, .int .i64 x, .int .i64 y], .int .i64 t] w fun e w' => e = .returned (.tuple #[.agg #[.int .i64 p, .int .i64 q], .int .i64 0]) ∧ Below w.heap.size w w' := by
 have HN := Lib.hid HN; have HP := Lib.hid HP; have HQ := Lib.hid HQ
 have HC1 : Hid (∀ W, Calls Tryz.prog 84 #[.agg #[.int .i64 rs, .int .i64 rf, .int .i64 rl, .int .i64 ra, .int .i64 rb]] W fun e w' => e = .returned (.int .i64 (recE rs rf rl ra rb)) ∧ Below W.heap.size W w') := fun W => checkReceiver_any rs rf rl ra rb W
 have HC2 : Hid (∀ W, Calls Tryz.prog 44 #[.agg #[.int .i64 a, .int .i64 b, .int .i64 c, .int .i64 d, .int .i64 x, .int .i64 y]] W fun e w' => e = .returned (.int .i64 (sigE a b c d x y)) ∧ Below W.heap.size W w') := fun W => checkSignal_any a b c d x y W
 have HC3 : Hid (∀ W, Calls Tryz.prog 86 #[.int .i64 t, .int .i64 0, .int .i64 1000] W fun e w' => e = .returned (.int .i64 (whenI (rangeB t 0 1000) 3)) ∧ W = w') := fun W => between_any t 0 1000 W
 obtain ⟨E1, hE1⟩ : ∃ E1, E1 = recE rs rf rl ra rb := ⟨_, rfl⟩
 obtain ⟨E2, hE2⟩ : ∃ E2, E2 = sigE a b c d x y := ⟨_, rfl⟩
 obtain ⟨E3, hE3⟩ : ∃ E3, E3 = whenI (rangeB t 0 1000) 3 := ⟨_, rfl⟩
 rw [← hE1] at HC1 hE
 rw [← hE2] at HC2 hE
 rw [← hE3] at HC3 hE
 have HE := Lib.hid hE
 have hne : (E == 0) = true := by simpa using h0
 have hne2 : (E != 0) = false := by simpa using h0
 clear hE hE1 hE2 hE3 h0
 obtain ⟨aa, haa⟩ : ∃ aa, aa = max a (-a) := ⟨_, rfl⟩
 obtain ⟨ab, hab⟩ : ∃ ab, ab = max b (-b) := ⟨_, rfl⟩
 rw [← haa, ← hab] at hby
 have ka : 0 ≤ aa ∧ aa ≤ 10000 := by omega
 have kb : 0 ≤ ab ∧ ab ≤ 10000 := by omega
 have HA : Hid (∀ W, Calls Tryz.prog 91 #[.int .i64 a] W fun e w' => e = .returned (.int .i64 aa) ∧ W = w') := fun W => (absolute_any a W (by unfold Bd; omega)).mono fun e w' h => ⟨by rw [h.1, haa], h.2.symm⟩
 have HAB : Hid (∀ W, Calls Tryz.prog 91 #[.int .i64 b] W fun e w' => e = .returned (.int .i64 ab) ∧ W = w') := fun W => (absolute_any b W (by unfold Bd; omega)).mono fun e w' h => ⟨by rw [h.1, hab], h.2.symm⟩
 have e1 : IntKind.i64.wrap (2 * t) = 2 * t := IntWalk.i64_in _ (by omega)
 have e2 : IntKind.i64.wrap (aa + ab) = aa + ab := IntWalk.i64_in _ (by omega)
 have e3 : IntKind.i64.wrap (2 * t * (aa + ab)) = by0 := by rw [← hby]; exact IntWalk.i64_in _ (by omega)
 have e4 : IntKind.i64.wrap (n - by0) = n - by0 := IntWalk.i64_in _ (by omega)
 have e5 : IntKind.i64.wrap (n + by0) = n + by0 := IntWalk.i64_in _ (by omega)
 clear bn bb hby ht ha hb haa hab ka kb
 go_enter Tryz.func38, Tryz.ntmps38
 go_upto_region 1 with fail
 refine genT (fun V => Row V (w.heap.size) 87 [.int .i64 rs, .int .i64 rf, .int .i64 rl, .int .i64 ra, .int .i64 rb] ∧ Row V (w.heap.size + 1) 35 [.int .i64 a, .int .i64 b, .int .i64 c, .int .i64 d, .int .i64 x, .int .i64 y] ∧ Row V (w.heap.size + 1 + 1) 85 [.int .i64 0, .int .i64 0] ∧ Below w.heap.size w V) ⟨(Row.alloc (Row.alloc (rowAt _ _ (by first | rfl | simp only [World.size_alloc])) _) _), (Row.alloc (rowAt _ _ (by first | rfl | simp only [World.size_alloc])) _), (rowAt _ _ (by first | rfl | simp only [World.size_alloc])), ((((Below.refl _ _).alloc (by first | exact Nat.le_refl _ | (simp only [World.size_alloc]; omega)) _).alloc (by first | exact Nat.le_refl _ | (simp only [World.size_alloc]; omega)) _).alloc (by first | exact Nat.le_refl _ | (simp only [World.size_alloc]; omega)) _)⟩ ?_
 intro W1 s1
 have HS1 : Hid (Row W1 (w.heap.size) 87 [.int .i64 rs, .int .i64 rf, .int .i64 rl, .int .i64 ra, .int .i64 rb] ∧ Row W1 (w.heap.size + 1) 35 [.int .i64 a, .int .i64 b, .int .i64 c, .int .i64 d, .int .i64 x, .int .i64 y] ∧ RowN W1 (w.heap.size + 1 + 1) 85 2 ∧ Below w.heap.size w W1) := ⟨s1.1, s1.2.1, ⟨_, rfl, s1.2.2.1⟩, s1.2.2.2⟩
 clear s1
 refine wp_region_held_drew (S := fun V => Row V (w.heap.size) 87 [.int .i64 rs, .int .i64 rf, .int .i64 rl, .int .i64 ra, .int .i64 rb] ∧ Row V (w.heap.size + 1) 35 [.int .i64 a, .int .i64 b, .int .i64 c, .int .i64 d, .int .i64 x, .int .i64 y] ∧ RowN V (w.heap.size + 1 + 1) 85 2 ∧ Below w.heap.size w V) (by kernel_rfl) ?_ (fun hHeld => ?_)
 · exact ⟨(HS1.out.1).drew, (HS1.out.2.1).drew, (HS1.out.2.2.1).drew, (HS1.out.2.2.2).drew⟩
 refine tk 0 11 (.agg #[.int .i64 rs, .int .i64 rf, .int .i64 rl, .int .i64 ra, .int .i64 rb]) rfl (by kernel_rfl) (fun _ _ _ h => h) (by kernel_rfl) (fun V hV => ex_rowT 87 _ rfl (w.heap.size) rfl 87 [.int .i64 rs, .int .i64 rf, .int .i64 rl, .int .i64 ra, .int .i64 rb] _ Tryz.underlying87 rfl (by kernel_rfl) (hV.1)) hHeld ?_
 try simp only [zz]
 refine tk 2 13 (.agg #[.int .i64 a, .int .i64 b, .int .i64 c, .int .i64 d, .int .i64 x, .int .i64 y]) rfl (by kernel_rfl) (fun _ _ _ h => h) (by kernel_rfl) (fun V hV => ex_rowT 35 _ rfl (w.heap.size + 1) rfl 35 [.int .i64 a, .int .i64 b, .int .i64 c, .int .i64 d, .int .i64 x, .int .i64 y] _ Tryz.underlying35 rfl (by kernel_rfl) (hV.2.1)) hHeld ?_
 try simp only [zz]
 refine ta 4 15 hHeld ?_
 try simp only [zz]
 refine st2 1 (fun K hK => ?_)
 go_simp
 go_at_call 84
 refine (HC1.out _).mono ?_
 rintro e v1 ⟨rfl, hb1⟩
 try go_simp
 refine hK.out _ _ ?_ (fun hHeld => ?_)
 · exact ⟨(hHeld.1).old hb1, (hHeld.2.1).old hb1, (hHeld.2.2.1).old hb1, (hHeld.2.2.2).trans ((hb1).mono (hHeld.2.2.2).size)⟩
 clear hK K
 try simp only [zz]
 refine st2 3 (fun K hK => ?_)
 go_simp
 go_at_call 44
 refine (HC2.out _).mono ?_
 rintro e v3 ⟨rfl, hb3⟩
 try go_simp
 refine hK.out _ _ ?_ (fun hHeld => ?_)
 · exact ⟨(hHeld.1).old hb3, (hHeld.2.1).old hb3, (hHeld.2.2.1).old hb3, (hHeld.2.2.2).trans ((hb3).mono (hHeld.2.2.2).size)⟩
 clear hK K
 try simp only [zz]
 refine st2 5 (fun K hK => ?_)
 go_simp
 go_at_call 86
 refine (HC3.out _).mono ?_
 rintro e v5 ⟨rfl, rfl⟩
 try go_simp
 refine hK.out _ _ ?_ (fun hHeld => ?_)
 · exact hHeld
 clear hK K
 try simp only [zz]
 refine st2 6 (fun K hK => ?_)
 go_simp
 refine hK.out _ _ ?_ (fun hHeld => ?_)
 · exact ⟨(hHeld.1).old ((Below.refl _ _).alloc (Nat.le_refl _) _), (hHeld.2.1).old ((Below.refl _ _).alloc (Nat.le_refl _) _), (hHeld.2.2.1).old ((Below.refl _ _).alloc (Nat.le_refl _) _), (hHeld.2.2.2).trans ((((Below.refl _ _).alloc (Nat.le_refl _) _)).mono (hHeld.2.2.2).size)⟩
 clear hK K
 try simp only [zz]
 refine st2 7 (fun K hK => ?_)
 go_simp
 go_at_call 64
 refine (firstV_any _ _ _ [E1, E2, E3] _ ?_ rfl (by simp)).mono ?_
 · exact Rd.newT (t := 32)
 rintro e v13 ⟨rfl, rfl⟩
 try go_simp
 refine hK.out _ _ ?_ (fun hHeld => ?_)
 · exact hHeld
 clear hK K
 try simp only [zz]
 refine ta 8 8 hHeld ?_
 try simp only [zz]
 refine wpAnyH_done (by kernel_rfl) ?_ _
 rw [← HE.out]
 clear HC1 HC2 HC3 HE
 have HS4 := Lib.hid hHeld
 clear hHeld
 go_upto_region 5 with (first
  | (refine wpList_load_row rfl 87 _ rfl (w.heap.size) rfl 87 #[.int .i64 rs, .int .i64 rf, .int .i64 rl, .int .i64 ra, .int .i64 rb] (0, 0) _ HS4.out.1 Tryz.underlying87 rfl ?_ ?_; (kernel_rfl))
  | (refine wpList_load_row rfl 35 _ rfl (w.heap.size + 1) rfl 35 #[.int .i64 a, .int .i64 b, .int .i64 c, .int .i64 d, .int .i64 x, .int .i64 y] (0, 0) _ HS4.out.2.1 Tryz.underlying35 rfl ?_ ?_; (kernel_rfl))
  | (go_at_call 61; refine (HN.out _).mono ?_; rintro e v4 ⟨rfl, hb4⟩; have HS5 : Hid (Row v4 (w.heap.size) 87 [.int .i64 rs, .int .i64 rf, .int .i64 rl, .int .i64 ra, .int .i64 rb] ∧ Row v4 (w.heap.size + 1) 35 [.int .i64 a, .int .i64 b, .int .i64 c, .int .i64 d, .int .i64 x, .int .i64 y] ∧ RowN v4 (w.heap.size + 1 + 1) 85 2 ∧ Below w.heap.size w v4) := ⟨(HS4.out.1).old hb4, (HS4.out.2.1).old hb4, (HS4.out.2.2.1).old hb4, (HS4.out.2.2.2).trans (hb4.mono (HS4.out.2.2.2).size)⟩; clear hb4)
  | (refine wpList_store_row rfl 141 _ _ rfl (v4.heap.size) #[.int .i64 n, .int .i64 Q] rfl rfl 141 _ (Row.new v4 141 [.int .i64 0, .int .i64 0]) ?_ ?_ ?_ ?_; (kernel_rfl); (rfl); (simp [Value.oneCell'])))
 have hbn : Below v4.heap.size v4 ((v4.alloc (.cells #[.int .i64 0, .int .i64 0] 141)).setRow v4.heap.size #[.int .i64 n, .int .i64 Q]) := Below.setRow ((Below.refl _ _).alloc (Nat.le_refl _) _) (Nat.le_refl _) _
 have hz1 : w.heap.size + 1 + 1 < v4.heap.size := (by obtain ⟨vs, _, h⟩ := HS5.out.2.2.1; exact h.lt)
 refine genT (fun V => Row V (w.heap.size) 87 [.int .i64 rs, .int .i64 rf, .int .i64 rl, .int .i64 ra, .int .i64 rb] ∧ Row V (w.heap.size + 1) 35 [.int .i64 a, .int .i64 b, .int .i64 c, .int .i64 d, .int .i64 x, .int .i64 y] ∧ Row V (v4.heap.size) 141 [.int .i64 n, .int .i64 Q] ∧ RowN V (w.heap.size + 1 + 1) 85 2 ∧ Below w.heap.size w V) ⟨(HS5.out.1).old hbn, (HS5.out.2.1).old hbn, (Row.new v4 141 [.int .i64 0, .int .i64 0]).setRow _, (HS5.out.2.2.1).old hbn, (HS5.out.2.2.2).trans (hbn.mono (HS5.out.2.2.2).size)⟩ ?_
 clear hbn HS5 HS4 HN
 intro W6 s6
 have HS6 := Lib.hid s6
 clear s6
 refine wp_region_held_drew (S := fun V => Row V (w.heap.size) 87 [.int .i64 rs, .int .i64 rf, .int .i64 rl, .int .i64 ra, .int .i64 rb] ∧ Row V (w.heap.size + 1) 35 [.int .i64 a, .int .i64 b, .int .i64 c, .int .i64 d, .int .i64 x, .int .i64 y] ∧ Row V (v4.heap.size) 141 [.int .i64 n, .int .i64 Q] ∧ RowN V (w.heap.size + 1 + 1) 85 2 ∧ Below w.heap.size w V) (by kernel_rfl) ?_ (fun hHeld => ?_)
 · exact ⟨(HS6.out.1).drew, (HS6.out.2.1).drew, (HS6.out.2.2.1).drew, (HS6.out.2.2.2.1).drew, (HS6.out.2.2.2.2).drew⟩
 refine ta 0 25 hHeld ?_
 try simp only [zz]
 refine ta 1 26 hHeld ?_
 try simp only [zz]
 refine ta 2 27 hHeld ?_
 try simp only [zz]
 refine ta 3 28 hHeld ?_
 try simp only [zz]
 refine tk 4 29 ?_ rfl (by kernel_rfl) (fun _ _ _ h => h) (by kernel_rfl) ?_ hHeld ?_
 rotate_left
 · intro w1 hSw; (try dsimp only at hSw); have cc := (hSw.2.1).cell 0; simp only [List.getElem?_cons_succ, List.getElem?_cons_zero] at cc; go_simp <;> with_reducible rfl
 try simp only [zz]
 refine ta 6 31 hHeld ?_
 try simp only [zz]
 refine ta 7 32 hHeld ?_
 try simp only [zz]
 refine tk 8 33 ?_ rfl (by kernel_rfl) (fun _ _ _ h => h) (by kernel_rfl) ?_ hHeld ?_
 rotate_left
 · intro w1 hSw; (try dsimp only at hSw); have cc := (hSw.2.1).cell 1; simp only [List.getElem?_cons_succ, List.getElem?_cons_zero] at cc; go_simp <;> with_reducible rfl
 try simp only [zz]
 refine st2 5 (fun K hK => ?_)
 go_simp
 go_at_call 91
 refine (HA.out _).mono ?_
 rintro e v5 ⟨rfl, rfl⟩
 try go_simp
 refine hK.out _ _ ?_ (fun hHeld => ?_)
 · exact hHeld
 clear hK K
 try simp only [zz]
 refine st2 9 (fun K hK => ?_)
 go_simp
 go_at_call 91
 refine (HAB.out _).mono ?_
 rintro e v9 ⟨rfl, rfl⟩
 try go_simp
 refine hK.out _ _ ?_ (fun hHeld => ?_)
 · exact hHeld
 clear hK K
 try simp only [zz]
 refine ta 10 35 hHeld ?_
 try simp only [zz]
 refine ta 11 36 hHeld ?_
 try simp only [zz]
 refine ta 12 10 hHeld ?_
 try simp only [zz]
 refine wpAnyH_done (by kernel_rfl) ?_ _
 have HS7 := Lib.hid hHeld
 clear hHeld
 go_upto_region 6 with fail
 refine wp_region_held_drew (S := fun V => Row V (w.heap.size) 87 [.int .i64 rs, .int .i64 rf, .int .i64 rl, .int .i64 ra, .int .i64 rb] ∧ Row V (w.heap.size + 1) 35 [.int .i64 a, .int .i64 b, .int .i64 c, .int .i64 d, .int .i64 x, .int .i64 y] ∧ Row V (v4.heap.size) 141 [.int .i64 n, .int .i64 Q] ∧ RowN V (w.heap.size + 1 + 1) 85 2 ∧ Below w.heap.size w V) (by kernel_rfl) ?_ (fun hHeld => ?_)
 · exact ⟨(HS7.out.1).drew, (HS7.out.2.1).drew, (HS7.out.2.2.1).drew, (HS7.out.2.2.2.1).drew, (HS7.out.2.2.2.2).drew⟩
 refine tk 0 37 (.agg #[.int .i64 rs, .int .i64 rf, .int .i64 rl, .int .i64 ra, .int .i64 rb]) rfl (by kernel_rfl) (fun _ _ _ h => h) (by kernel_rfl) (fun V hV => ex_rowT 87 _ rfl (w.heap.size) rfl 87 [.int .i64 rs, .int .i64 rf, .int .i64 rl, .int .i64 ra, .int .i64 rb] _ Tryz.underlying87 rfl (by kernel_rfl) (hV.1)) hHeld ?_
 try simp only [zz]
 refine ta 1 38 hHeld ?_
 try simp only [zz]
 refine tk 2 39 ?_ rfl (by kernel_rfl) (fun _ _ _ h => h) (by kernel_rfl) ?_ hHeld ?_
 rotate_left
 · intro w1 hSw; (try dsimp only at hSw); have cc := (hSw.2.2.1).cell 0; simp only [List.getElem?_cons_succ, List.getElem?_cons_zero] at cc; go_simp <;> with_reducible rfl
 try simp only [zz]
 refine ta 3 40 hHeld ?_
 try simp only [zz]
 refine ta 4 41 hHeld ?_
 try simp only [zz]
 refine ta 5 42 hHeld ?_
 try simp only [zz]
 refine tk 6 43 ?_ rfl (by kernel_rfl) (fun _ _ _ h => h) (by kernel_rfl) ?_ hHeld ?_
 rotate_left
 · intro w1 hSw; (try dsimp only at hSw); have cc := (hSw.2.2.1).cell 1; simp only [List.getElem?_cons_succ, List.getElem?_cons_zero] at cc; go_simp <;> with_reducible rfl
 try simp only [zz]
 refine ta 7 44 hHeld ?_
 try simp only [zz]
 refine tk 9 46 (.agg #[.int .i64 rs, .int .i64 rf, .int .i64 rl, .int .i64 ra, .int .i64 rb]) rfl (by kernel_rfl) (fun _ _ _ h => h) (by kernel_rfl) (fun V hV => ex_rowT 87 _ rfl (w.heap.size) rfl 87 [.int .i64 rs, .int .i64 rf, .int .i64 rl, .int .i64 ra, .int .i64 rb] _ Tryz.underlying87 rfl (by kernel_rfl) (hV.1)) hHeld ?_
 try simp only [zz]
 refine ta 10 47 hHeld ?_
 try simp only [zz]
 refine tk 11 48 ?_ rfl (by kernel_rfl) (fun _ _ _ h => h) (by kernel_rfl) ?_ hHeld ?_
 rotate_left
 · intro w1 hSw; (try dsimp only at hSw); have cc := (hSw.2.2.1).cell 0; simp only [List.getElem?_cons_succ, List.getElem?_cons_zero] at cc; go_simp <;> with_reducible rfl
 try simp only [zz]
 refine ta 12 49 hHeld ?_
 try simp only [zz]
 refine ta 13 50 hHeld ?_
 try simp only [zz]
 refine ta 14 51 hHeld ?_
 try simp only [zz]
 refine tk 15 52 ?_ rfl (by kernel_rfl) (fun _ _ _ h => h) (by kernel_rfl) ?_ hHeld ?_
 rotate_left
 · intro w1 hSw; (try dsimp only at hSw); have cc := (hSw.2.2.1).cell 1; simp only [List.getElem?_cons_succ, List.getElem?_cons_zero] at cc; go_simp <;> with_reducible rfl
 try simp only [zz]
 refine ta 16 53 hHeld ?_
 try simp only [zz]
 refine st2 8 (fun K hK => ?_)
 go_simp
 go_at_call 92
 refine (HP.out _).mono ?_
 rintro e v8 ⟨rfl, hb8⟩
 try go_simp
 refine hK.out _ _ ?_ (fun hHeld => ?_)
 · exact ⟨(hHeld.1).old hb8, (hHeld.2.1).old hb8, (hHeld.2.2.1).old hb8, (hHeld.2.2.2.1).old hb8, (hHeld.2.2.2.2).trans ((hb8).mono (hHeld.2.2.2.2).size)⟩
 clear hK K
 try simp only [zz]
 refine st2 17 (fun K hK => ?_)
 go_simp
 go_at_call 92
 refine (HQ.out _).mono ?_
 rintro e v17 ⟨rfl, hb17⟩
 try go_simp
 refine hK.out _ _ ?_ (fun hHeld => ?_)
 · exact ⟨(hHeld.1).old hb17, (hHeld.2.1).old hb17, (hHeld.2.2.1).old hb17, (hHeld.2.2.2.1).old hb17, (hHeld.2.2.2.2).trans ((hb17).mono (hHeld.2.2.2.2).size)⟩
 clear hK K
 try simp only [zz]
 refine ta 18 55 hHeld ?_
 try simp only [zz]
 refine st2 19 (fun K hK => ?_)
 obtain ⟨vs, hvl, hvr⟩ := (hHeld.2.2.2.1)
 have hLast := hHeld
 refine step_store_row rfl 85 _ _ rfl (w.heap.size + 1 + 1) [.int .i64 p, .int .i64 q] rfl rfl 85 vs hvr (by kernel_rfl) hvl (by simp [Value.oneCell']) ?_
 refine hK.out _ _ ?_ (fun hHeld => ?_)
 · exact ⟨(hHeld.1).farRow (by omega) _, (hHeld.2.1).farRow (by omega) _, (hHeld.2.2.1).farRow (by omega) _, ⟨_, rfl, hvr.setRow _⟩, Below.setRow (hHeld.2.2.2.2) (by omega) _⟩
 clear hK K
 try simp only [zz]
 refine ta 20 7 hHeld ?_
 try simp only [zz]
 refine wpAnyH_done (by kernel_rfl) ?_ _
 go_wp2_with fail
 refine bodyPost_ret (results_rt rfl _ _ (w.heap.size + 1 + 1) 85 #[.int .i64 p, .int .i64 q] (0, 0) _ rfl (hvr.setRow [.int .i64 p, .int .i64 q]) Tryz.underlying85 rfl (by kernel_rfl)) rfl ⟨rfl, Below.setRow hLast.2.2.2.2 (by omega) _⟩
def inB (m p : Int) : Bool := !(decide (p < -m)) && !(decide (m < p))
def nearB (m a b c d x y : Int) : Bool := decide (sigE a b c d x y = 0) && (inB m a && inB m b) && (inB m c && inB m d) && (inB m x && inB m y)
set_option maxRecDepth 100000 in
set_option maxHeartbeats 4000000 in
theorem near_any (a b c d x y m : Int) (w : World) (hm : 0 ≤ m ∧ m ≤ 1000000) : Calls Tryz.prog 6 #[.agg #[.int .i64 a, .int .i64 b, .int .i64 c, .int .i64 d, .int .i64 x, .int .i64 y], .int .i64 m] w fun e w' => e = .returned (.bool (nearB m a b c d x y)) ∧ Below w.heap.size w w' := by
 obtain ⟨E, hE⟩ : ∃ E, E = sigE a b c d x y := ⟨_, rfl⟩
 have HC : Hid (∀ W, Calls Tryz.prog 43 #[.agg #[.int .i64 a, .int .i64 b, .int .i64 c, .int .i64 d, .int .i64 x, .int .i64 y]] W fun e w' => e = .returned (.int .i64 E) ∧ Below W.heap.size W w') := fun W => by rw [hE]; exact checkSignalR_any a b c d x y W
 have e1 : IntKind.i64.wrap (-m) = -m := IntWalk.i64_in _ (by omega)
 have hN : nearB m a b c d x y = (decide (E = 0) && (inB m a && inB m b) && (inB m c && inB m d) && (inB m x && inB m y)) := by unfold nearB; rw [← hE]
 rw [hN]
 clear hE hN hm
 by_cases h0 : E = 0
 · subst h0
   go_enter Tryz.func6, Tryz.ntmps6
   go_upto_region 1 with fail
   refine genT (fun V => Row V (w.heap.size) 25 [.int .i64 a, .int .i64 b, .int .i64 c, .int .i64 d, .int .i64 x, .int .i64 y] ∧ Below w.heap.size w V) ⟨(rowAt _ _ (by first | rfl | simp only [World.size_alloc])), ((Below.refl _ _).alloc (by first | exact Nat.le_refl _ | (simp only [World.size_alloc]; omega)) _)⟩ ?_
   intro W1 s1
   have HS1 := Lib.hid s1
   clear s1
   have c0 := HS1.out.1.cell 0; have c1 := HS1.out.1.cell 1; have c2 := HS1.out.1.cell 2; have c3 := HS1.out.1.cell 3; have c4 := HS1.out.1.cell 4; have c5 := HS1.out.1.cell 5
   go_upto_region 3 with (first | (refine wpList_load_row rfl 25 _ rfl (w.heap.size) rfl 25 #[.int .i64 a, .int .i64 b, .int .i64 c, .int .i64 d, .int .i64 x, .int .i64 y] (0, 0) _ HS1.out.1 Tryz.underlying25 rfl ?_ ?_; (kernel_rfl)) | (go_at_call 43; refine (HC.out _).mono ?_; rintro e w2 ⟨rfl, hb_w2⟩; have HS2 : Hid (Row w2 (w.heap.size) 25 [.int .i64 a, .int .i64 b, .int .i64 c, .int .i64 d, .int .i64 x, .int .i64 y] ∧ Below w.heap.size w w2) := ⟨(HS1.out.1).old hb_w2, (HS1.out.2).trans (hb_w2.mono (HS1.out.2).size)⟩; clear hb_w2))
   clear c0 c1 c2 c3 c4 c5
   have c0 := HS2.out.1.cell 0; have c1 := HS2.out.1.cell 1; have c2 := HS2.out.1.cell 2; have c3 := HS2.out.1.cell 3; have c4 := HS2.out.1.cell 4; have c5 := HS2.out.1.cell 5
   simp only [List.getElem?_cons_succ, List.getElem?_cons_zero] at c0 c1 c2 c3 c4 c5
   go_upto_region 4 with fail
   obtain ⟨gs, hgs⟩ : ∃ gs, gs = w2.heap.size := ⟨_, rfl⟩
   have hlt : w.heap.size < gs := by rw [hgs]; exact HS2.out.1.lt
   refine genT (fun V => Row V w.heap.size 25 [.int .i64 a, .int .i64 b, .int .i64 c, .int .i64 d, .int .i64 x, .int .i64 y] ∧ Row V gs 23 [.int .i64 a, .int .i64 b, .int .i64 c, .int .i64 d, .int .i64 x, .int .i64 y] ∧ Below w.heap.size w V) ⟨HS2.out.1.alloc _, rowAt _ _ hgs.symm, HS2.out.2.alloc HS2.out.2.size _⟩ ?_
   rw [← hgs]
   clear c0 c1 c2 c3 c4 c5 HS1 hgs HC
   intro W3 s3
   have HS := Lib.hid s3
   clear s3 HS2
   go_loopg [18] 3 (fun gg s18 wx => (gg = 3 ∧ s18 = .int .i64 0 ∧ Hid (Row wx w.heap.size 25 [.int .i64 a, .int .i64 b, .int .i64 c, .int .i64 d, .int .i64 x, .int .i64 y] ∧ Row wx gs 23 [.int .i64 a, .int .i64 b, .int .i64 c, .int .i64 d, .int .i64 x, .int .i64 y] ∧ Below w.heap.size w wx)) ∨ (gg = 2 ∧ s18 = .int .i64 1 ∧ (inB m a && inB m b) = true ∧ Hid (Row wx w.heap.size 25 [.int .i64 a, .int .i64 b, .int .i64 c, .int .i64 d, .int .i64 x, .int .i64 y] ∧ Row wx gs 23 [.int .i64 a, .int .i64 b, .int .i64 c, .int .i64 d, .int .i64 x, .int .i64 y] ∧ Below w.heap.size w wx)) ∨ (gg = 1 ∧ s18 = .int .i64 2 ∧ (inB m a && inB m b) = true ∧ (inB m c && inB m d) = true ∧ Hid (Row wx w.heap.size 25 [.int .i64 a, .int .i64 b, .int .i64 c, .int .i64 d, .int .i64 x, .int .i64 y] ∧ Row wx gs 23 [.int .i64 a, .int .i64 b, .int .i64 c, .int .i64 d, .int .i64 x, .int .i64 y] ∧ Below w.heap.size w wx)) ∨ (gg = 0 ∧ s18 = .int .i64 3 ∧ (inB m a && inB m b) = true ∧ (inB m c && inB m d) = true ∧ (inB m x && inB m y) = true ∧ Hid (Row wx w.heap.size 25 [.int .i64 a, .int .i64 b, .int .i64 c, .int .i64 d, .int .i64 x, .int .i64 y] ∧ Row wx gs 23 [.int .i64 a, .int .i64 b, .int .i64 c, .int .i64 d, .int .i64 x, .int .i64 y] ∧ Below w.heap.size w wx)))
   case atStart => exact .inl ⟨rfl, rfl, HS⟩
   case round =>
    clear HS
    obtain ⟨rfl, rfl, HS⟩ | ⟨rfl, rfl, q0, HS⟩ | ⟨rfl, rfl, q0, q1, HS⟩ | ⟨rfl, rfl, q0, q1, q2, HS⟩ := hrel
    · have d0 := HS.out.2.1.cell 0; have d1 := HS.out.2.1.cell 1
      simp only [List.getElem?_cons_succ, List.getElem?_cons_zero] at d0 d1
      have hg2 : gs < wr.heap.size := HS.out.2.1.lt
      have hbn : Below wr.heap.size wr ((wr.alloc (.cells #[.int .i64 0, .int .i64 0] 23)).setRow wr.heap.size #[.int .i64 a, .int .i64 b]) := Below.setRow ((Below.refl _ _).alloc (Nat.le_refl _) _) (Nat.le_refl _) _
      go_upto_region 6 with (refine wpList_store_row rfl 23 _ _ rfl (wr.heap.size) #[.int .i64 a, .int .i64 b] rfl rfl 23 _ (Row.new wr 23 [.int .i64 0, .int .i64 0]) ?_ ?_ ?_ ?_; (kernel_rfl); (rfl); (simp [Value.oneCell']))
      refine genT (fun V => Row V wr.heap.size 23 [.int .i64 a, .int .i64 b] ∧ Row V w.heap.size 25 [.int .i64 a, .int .i64 b, .int .i64 c, .int .i64 d, .int .i64 x, .int .i64 y] ∧ Row V gs 23 [.int .i64 a, .int .i64 b, .int .i64 c, .int .i64 d, .int .i64 x, .int .i64 y] ∧ Below w.heap.size w V) ⟨(Row.new wr 23 [.int .i64 0, .int .i64 0]).setRow _, HS.out.1.old hbn, HS.out.2.1.old hbn, HS.out.2.2.trans (hbn.mono HS.out.2.2.size)⟩ ?_
      clear d0 d1 hbn
      intro W6 s6
      have HK := Lib.hid s6.2
      have d0 := s6.1.cell 0; have d1 := s6.1.cell 1
      simp only [List.getElem?_cons_succ, List.getElem?_cons_zero] at d0 d1
      have HF := Lib.hid HK.out.2.2
      clear s6 HS
      by_cases g1 : a < -m
      · have fa : decide (a < -m) = true := decide_eq_true g1
        clear HK g1
        have hbad : inB m a = false := by unfold inB; simp only [fa]; rfl
        have HZ : Hid (((inB m a && inB m b) && (inB m c && inB m d) && (inB m x && inB m y)) = false) := Lib.hid (by simp [hbad])
        clear hbad
        go_wp2_with fail
        go_ret
        exact ⟨by have h := HZ.out; first | (rw [h]; rfl) | simp [h], HF.out⟩
      · have f1 : decide (a < -m) = false := decide_eq_false g1
        by_cases g2 : m < a
        · have fa : decide (m < a) = true := decide_eq_true g2
          clear HK g1 g2
          have hbad : inB m a = false := by unfold inB; simp only [f1, fa]; rfl
          have HZ : Hid (((inB m a && inB m b) && (inB m c && inB m d) && (inB m x && inB m y)) = false) := Lib.hid (by simp [hbad])
          clear hbad
          go_wp2_with fail
          go_ret
          exact ⟨by have h := HZ.out; first | (rw [h]; rfl) | simp [h], HF.out⟩
        · have f2 : decide (m < a) = false := decide_eq_false g2
          by_cases g3 : b < -m
          · have fb : decide (b < -m) = true := decide_eq_true g3
            clear HK g1 g2 g3
            have hbad : inB m b = false := by unfold inB; simp only [fb]; rfl
            have HZ : Hid (((inB m a && inB m b) && (inB m c && inB m d) && (inB m x && inB m y)) = false) := Lib.hid (by simp [hbad])
            clear hbad
            go_wp2_with fail
            go_ret
            exact ⟨by have h := HZ.out; first | (rw [h]; rfl) | simp [h], HF.out⟩
          · have f3 : decide (b < -m) = false := decide_eq_false g3
            by_cases g4 : m < b
            · have fb : decide (m < b) = true := decide_eq_true g4
              clear HK g1 g2 g3 g4
              have hbad : inB m b = false := by unfold inB; simp only [f3, fb]; rfl
              have HZ : Hid (((inB m a && inB m b) && (inB m c && inB m d) && (inB m x && inB m y)) = false) := Lib.hid (by simp [hbad])
              clear hbad
              go_wp2_with fail
              go_ret
              exact ⟨by have h := HZ.out; first | (rw [h]; rfl) | simp [h], HF.out⟩
            · have f4 : decide (m < b) = false := decide_eq_false g4
              have hq : (inB m a && inB m b) = true := by unfold inB; simp only [f1, f2, f3, f4]; rfl
              clear g1 g2 g3 g4 HF
              have HQN := Lib.hid hq
              clear hq
              go_wp2_with fail
              go_roundg 2
              case measure => omega
              case rel => exact .inr (.inl ⟨rfl, rfl, HQN.out, HK⟩)
    · have d0 := HS.out.2.1.cell 2; have d1 := HS.out.2.1.cell 3
      simp only [List.getElem?_cons_succ, List.getElem?_cons_zero] at d0 d1
      have hg2 : gs < wr.heap.size := HS.out.2.1.lt
      have hbn : Below wr.heap.size wr ((wr.alloc (.cells #[.int .i64 0, .int .i64 0] 23)).setRow wr.heap.size #[.int .i64 c, .int .i64 d]) := Below.setRow ((Below.refl _ _).alloc (Nat.le_refl _) _) (Nat.le_refl _) _
      have HQ0 := Lib.hid q0
      clear q0
      go_upto_region 6 with (refine wpList_store_row rfl 23 _ _ rfl (wr.heap.size) #[.int .i64 c, .int .i64 d] rfl rfl 23 _ (Row.new wr 23 [.int .i64 0, .int .i64 0]) ?_ ?_ ?_ ?_; (kernel_rfl); (rfl); (simp [Value.oneCell']))
      refine genT (fun V => Row V wr.heap.size 23 [.int .i64 c, .int .i64 d] ∧ Row V w.heap.size 25 [.int .i64 a, .int .i64 b, .int .i64 c, .int .i64 d, .int .i64 x, .int .i64 y] ∧ Row V gs 23 [.int .i64 a, .int .i64 b, .int .i64 c, .int .i64 d, .int .i64 x, .int .i64 y] ∧ Below w.heap.size w V) ⟨(Row.new wr 23 [.int .i64 0, .int .i64 0]).setRow _, HS.out.1.old hbn, HS.out.2.1.old hbn, HS.out.2.2.trans (hbn.mono HS.out.2.2.size)⟩ ?_
      clear d0 d1 hbn
      intro W6 s6
      have HK := Lib.hid s6.2
      have d0 := s6.1.cell 0; have d1 := s6.1.cell 1
      simp only [List.getElem?_cons_succ, List.getElem?_cons_zero] at d0 d1
      have HF := Lib.hid HK.out.2.2
      clear s6 HS
      by_cases g1 : c < -m
      · have fc : decide (c < -m) = true := decide_eq_true g1
        clear HK g1
        have hbad : inB m c = false := by unfold inB; simp only [fc]; rfl
        have HZ : Hid (((inB m a && inB m b) && (inB m c && inB m d) && (inB m x && inB m y)) = false) := Lib.hid (by simp [hbad])
        clear hbad
        go_wp2_with fail
        go_ret
        exact ⟨by have h := HZ.out; first | (rw [h]; rfl) | simp [h], HF.out⟩
      · have f1 : decide (c < -m) = false := decide_eq_false g1
        by_cases g2 : m < c
        · have fc : decide (m < c) = true := decide_eq_true g2
          clear HK g1 g2
          have hbad : inB m c = false := by unfold inB; simp only [f1, fc]; rfl
          have HZ : Hid (((inB m a && inB m b) && (inB m c && inB m d) && (inB m x && inB m y)) = false) := Lib.hid (by simp [hbad])
          clear hbad
          go_wp2_with fail
          go_ret
          exact ⟨by have h := HZ.out; first | (rw [h]; rfl) | simp [h], HF.out⟩
        · have f2 : decide (m < c) = false := decide_eq_false g2
          by_cases g3 : d < -m
          · have fd : decide (d < -m) = true := decide_eq_true g3
            clear HK g1 g2 g3
            have hbad : inB m d = false := by unfold inB; simp only [fd]; rfl
            have HZ : Hid (((inB m a && inB m b) && (inB m c && inB m d) && (inB m x && inB m y)) = false) := Lib.hid (by simp [hbad])
            clear hbad
            go_wp2_with fail
            go_ret
            exact ⟨by have h := HZ.out; first | (rw [h]; rfl) | simp [h], HF.out⟩
          · have f3 : decide (d < -m) = false := decide_eq_false g3
            by_cases g4 : m < d
            · have fd : decide (m < d) = true := decide_eq_true g4
              clear HK g1 g2 g3 g4
              have hbad : inB m d = false := by unfold inB; simp only [f3, fd]; rfl
              have HZ : Hid (((inB m a && inB m b) && (inB m c && inB m d) && (inB m x && inB m y)) = false) := Lib.hid (by simp [hbad])
              clear hbad
              go_wp2_with fail
              go_ret
              exact ⟨by have h := HZ.out; first | (rw [h]; rfl) | simp [h], HF.out⟩
            · have f4 : decide (m < d) = false := decide_eq_false g4
              have hq : (inB m c && inB m d) = true := by unfold inB; simp only [f1, f2, f3, f4]; rfl
              clear g1 g2 g3 g4 HF
              have HQN := Lib.hid hq
              clear hq
              go_wp2_with fail
              go_roundg 1
              case measure => omega
              case rel => exact .inr (.inr (.inl ⟨rfl, rfl, HQ0.out, HQN.out, HK⟩))
    · have d0 := HS.out.2.1.cell 4; have d1 := HS.out.2.1.cell 5
      simp only [List.getElem?_cons_succ, List.getElem?_cons_zero] at d0 d1
      have hg2 : gs < wr.heap.size := HS.out.2.1.lt
      have hbn : Below wr.heap.size wr ((wr.alloc (.cells #[.int .i64 0, .int .i64 0] 23)).setRow wr.heap.size #[.int .i64 x, .int .i64 y]) := Below.setRow ((Below.refl _ _).alloc (Nat.le_refl _) _) (Nat.le_refl _) _
      have HQ0 := Lib.hid q0
      have HQ1 := Lib.hid q1
      clear q0 q1
      go_upto_region 6 with (refine wpList_store_row rfl 23 _ _ rfl (wr.heap.size) #[.int .i64 x, .int .i64 y] rfl rfl 23 _ (Row.new wr 23 [.int .i64 0, .int .i64 0]) ?_ ?_ ?_ ?_; (kernel_rfl); (rfl); (simp [Value.oneCell']))
      refine genT (fun V => Row V wr.heap.size 23 [.int .i64 x, .int .i64 y] ∧ Row V w.heap.size 25 [.int .i64 a, .int .i64 b, .int .i64 c, .int .i64 d, .int .i64 x, .int .i64 y] ∧ Row V gs 23 [.int .i64 a, .int .i64 b, .int .i64 c, .int .i64 d, .int .i64 x, .int .i64 y] ∧ Below w.heap.size w V) ⟨(Row.new wr 23 [.int .i64 0, .int .i64 0]).setRow _, HS.out.1.old hbn, HS.out.2.1.old hbn, HS.out.2.2.trans (hbn.mono HS.out.2.2.size)⟩ ?_
      clear d0 d1 hbn
      intro W6 s6
      have HK := Lib.hid s6.2
      have d0 := s6.1.cell 0; have d1 := s6.1.cell 1
      simp only [List.getElem?_cons_succ, List.getElem?_cons_zero] at d0 d1
      have HF := Lib.hid HK.out.2.2
      clear s6 HS
      by_cases g1 : x < -m
      · have fx : decide (x < -m) = true := decide_eq_true g1
        clear HK g1
        have hbad : inB m x = false := by unfold inB; simp only [fx]; rfl
        have HZ : Hid (((inB m a && inB m b) && (inB m c && inB m d) && (inB m x && inB m y)) = false) := Lib.hid (by simp [hbad])
        clear hbad
        go_wp2_with fail
        go_ret
        exact ⟨by have h := HZ.out; first | (rw [h]; rfl) | simp [h], HF.out⟩
      · have f1 : decide (x < -m) = false := decide_eq_false g1
        by_cases g2 : m < x
        · have fx : decide (m < x) = true := decide_eq_true g2
          clear HK g1 g2
          have hbad : inB m x = false := by unfold inB; simp only [f1, fx]; rfl
          have HZ : Hid (((inB m a && inB m b) && (inB m c && inB m d) && (inB m x && inB m y)) = false) := Lib.hid (by simp [hbad])
          clear hbad
          go_wp2_with fail
          go_ret
          exact ⟨by have h := HZ.out; first | (rw [h]; rfl) | simp [h], HF.out⟩
        · have f2 : decide (m < x) = false := decide_eq_false g2
          by_cases g3 : y < -m
          · have fy : decide (y < -m) = true := decide_eq_true g3
            clear HK g1 g2 g3
            have hbad : inB m y = false := by unfold inB; simp only [fy]; rfl
            have HZ : Hid (((inB m a && inB m b) && (inB m c && inB m d) && (inB m x && inB m y)) = false) := Lib.hid (by simp [hbad])
            clear hbad
            go_wp2_with fail
            go_ret
            exact ⟨by have h := HZ.out; first | (rw [h]; rfl) | simp [h], HF.out⟩
          · have f3 : decide (y < -m) = false := decide_eq_false g3
            by_cases g4 : m < y
            · have fy : decide (m < y) = true := decide_eq_true g4
              clear HK g1 g2 g3 g4
              have hbad : inB m y = false := by unfold inB; simp only [f3, fy]; rfl
              have HZ : Hid (((inB m a && inB m b) && (inB m c && inB m d) && (inB m x && inB m y)) = false) := Lib.hid (by simp [hbad])
              clear hbad
              go_wp2_with fail
              go_ret
              exact ⟨by have h := HZ.out; first | (rw [h]; rfl) | simp [h], HF.out⟩
            · have f4 : decide (m < y) = false := decide_eq_false g4
              have hq : (inB m x && inB m y) = true := by unfold inB; simp only [f1, f2, f3, f4]; rfl
              clear g1 g2 g3 g4 HF
              have HQN := Lib.hid hq
              clear hq
              go_wp2_with fail
              go_roundg 0
              case measure => omega
              case rel => exact .inr (.inr (.inr ⟨rfl, rfl, HQ0.out, HQ1.out, HQN.out, HK⟩))
    · have HF := Lib.hid HS.out.2.2
      have HQ := Lib.hid (And.intro q0 (And.intro q1 q2))
      clear HS q0 q1 q2
      go_wp2_with fail
      go_ret
      exact ⟨by have h0 := HQ.out.1; have h1 := HQ.out.2.1; have h2 := HQ.out.2.2; first | (rw [h0, h1, h2]; rfl) | simp [h0, h1, h2], HF.out⟩
 · have hne : (E != 0) = true := by simpa using h0
   have hz : decide (E = 0) = false := decide_eq_false h0
   rw [hz]
   clear hz h0
   go_enter Tryz.func6, Tryz.ntmps6
   go_upto_region 1 with fail
   refine genT (fun V => Row V (w.heap.size) 25 [.int .i64 a, .int .i64 b, .int .i64 c, .int .i64 d, .int .i64 x, .int .i64 y] ∧ Below w.heap.size w V) ⟨(rowAt _ _ (by first | rfl | simp only [World.size_alloc])), ((Below.refl _ _).alloc (by first | exact Nat.le_refl _ | (simp only [World.size_alloc]; omega)) _)⟩ ?_
   intro W1 s1
   have HS1 := Lib.hid s1
   clear s1
   go_wp2_with (first | (refine wpList_load_row rfl 25 _ rfl (w.heap.size) rfl 25 #[.int .i64 a, .int .i64 b, .int .i64 c, .int .i64 d, .int .i64 x, .int .i64 y] (0, 0) _ HS1.out.1 Tryz.underlying25 rfl ?_ ?_; (kernel_rfl)) | (go_at_call 43; refine (HC.out _).mono ?_; rintro e w2 ⟨rfl, hb_w2⟩; have HS2 : Hid (Row w2 (w.heap.size) 25 [.int .i64 a, .int .i64 b, .int .i64 c, .int .i64 d, .int .i64 x, .int .i64 y] ∧ Below w.heap.size w w2) := ⟨(HS1.out.1).old hb_w2, (HS1.out.2).trans (hb_w2.mono (HS1.out.2).size)⟩; clear hb_w2))
   go_ret
   exact ⟨rfl, HS2.out.2⟩
end Go.Proofs.YtaknlhepgeiekaaGreatDoor
