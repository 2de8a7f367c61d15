import Derived.Test.YtaknlhepgeiekaaGreatDoorH39
namespace Go.Proofs.YtaknlhepgeiekaaGreatDoor
set_option linter.all false
open Go.RowKit Go.Fl
set_option maxRecDepth 100000
set_option maxHeartbeats 16000000
theorem rwAC {p : Prop} (h : p := by repeat (first | with_reducible exact Row.new _ _ _ | exact rowAt _ _ (by first | rfl | simp only [World.size_alloc]) | with_reducible refine Row.old ?_ hb1 | with_reducible refine Row.old ?_ hb4 | with_reducible refine Row.old ?_ hb11 | with_reducible refine Row.alloc ?_ _ | with_reducible refine Row.drew ?_)) : p := h
theorem fI4 {a b c d : Int} (h : firstI [a, b, c, d] = 0) : a = 0 ∧ b = 0 ∧ c = 0 ∧ d = 0 := by
 by_cases ha : a = 0
 · subst ha
   exact ⟨rfl, fI3 h⟩
 · rw [firstI, if_neg ha] at h; exact absurd h ha
theorem part1000 {k l : Int} (h : firstI ([(k, l)].map (partE 1000)) = 0) : Gs k l := by
 have h2 : partE 1000 (k, l) = 0 := by
  by_cases h3 : partE 1000 (k, l) = 0
  · exact h3
  · rw [List.map_cons, List.map_nil, firstI, if_neg h3] at h; exact absurd h h3
 have h4 := part_good h2
 exact ⟨by have := h4.1; omega, by have := h4.2; omega⟩
theorem added_ok (a b c d x y k l m n u v : Int) (w : World) (hE : firstI [sigE a b c d x y, sigE k l m n u v] = 0) : Calls Tryz.prog 40 #[.agg #[.int .i64 a, .int .i64 b, .int .i64 c, .int .i64 d, .int .i64 x, .int .i64 y], .agg #[.int .i64 k, .int .i64 l, .int .i64 m, .int .i64 n, .int .i64 u, .int .i64 v]] w fun e w' => e = .returned (.tuple #[.agg (resV [a + k, b + l, c + m, d + n, x + u, y + v] (bigE (sigE (a + k) (b + l) (c + m) (d + n) (x + u) (y + v)))).toArray, .int .i64 (bigE (sigE (a + k) (b + l) (c + m) (d + n) (x + u) (y + v)))]) ∧ Below w.heap.size w w' := by
 obtain ⟨hs, hk⟩ := fI2 hE
 have hg := sig_good hs
 have hk := sig_good hk
 obtain ⟨E, hE0, hE⟩ : ∃ E : Int, E = 0 ∧ firstI [sigE a b c d x y, sigE k l m n u v] = E := ⟨0, rfl, hE⟩
 obtain ⟨E1, hE1⟩ : ∃ E1, E1 = sigE a b c d x y := ⟨_, rfl⟩
 obtain ⟨E2, hE2⟩ : ∃ E2, E2 = sigE k l m n u v := ⟨_, rfl⟩
 rw [← hE1, ← hE2] at hE
 have HF : Hid (firstI [E1, E2] = E) := hE
 have HC1 : Hid (∀ W, Calls Tryz.prog 44 #[.agg #[.int .i64 a, .int .i64 b, .int .i64 c, .int .i64 d, .int .i64 x, .int .i64 y]] W fun e w' => e = .returned (.int .i64 E1) ∧ Below W.heap.size W w') := fun W => by rw [hE1]; exact checkSignal_any a b c d x y W
 have HC2 : Hid (∀ W, Calls Tryz.prog 44 #[.agg #[.int .i64 k, .int .i64 l, .int .i64 m, .int .i64 n, .int .i64 u, .int .i64 v]] W fun e w' => e = .returned (.int .i64 E2) ∧ Below W.heap.size W w') := fun W => by rw [hE2]; exact checkSignal_any k l m n u v W
 obtain ⟨p1, hp1⟩ : ∃ p, p = a + k := ⟨_, rfl⟩
 obtain ⟨p2, hp2⟩ : ∃ p, p = b + l := ⟨_, rfl⟩
 obtain ⟨p3, hp3⟩ : ∃ p, p = c + m := ⟨_, rfl⟩
 obtain ⟨p4, hp4⟩ : ∃ p, p = d + n := ⟨_, rfl⟩
 obtain ⟨p5, hp5⟩ : ∃ p, p = x + u := ⟨_, rfl⟩
 obtain ⟨p6, hp6⟩ : ∃ p, p = y + v := ⟨_, rfl⟩
 have HP1 : Hid (∀ W, Calls Tryz.prog 96 #[.agg #[.int .i64 a, .int .i64 b], .agg #[.int .i64 k, .int .i64 l]] W fun e w' => e = .returned (.agg #[.int .i64 p1, .int .i64 p2]) ∧ Below W.heap.size W w') := fun W => by rw [hp1, hp2]; exact plusT_any a b k l W hg.g1 hk.g1
 have HP2 : Hid (∀ W, Calls Tryz.prog 96 #[.agg #[.int .i64 c, .int .i64 d], .agg #[.int .i64 m, .int .i64 n]] W fun e w' => e = .returned (.agg #[.int .i64 p3, .int .i64 p4]) ∧ Below W.heap.size W w') := fun W => by rw [hp3, hp4]; exact plusT_any c d m n W hg.g2 hk.g2
 have HP3 : Hid (∀ W, Calls Tryz.prog 96 #[.agg #[.int .i64 x, .int .i64 y], .agg #[.int .i64 u, .int .i64 v]] W fun e w' => e = .returned (.agg #[.int .i64 p5, .int .i64 p6]) ∧ Below W.heap.size W w') := fun W => by rw [hp5, hp6]; exact plusT_any x y u v W hg.g3 hk.g3
 rw [← hp1, ← hp2, ← hp3, ← hp4, ← hp5, ← hp6]
 obtain ⟨EE, hEE⟩ : ∃ EE, EE = bigE (sigE p1 p2 p3 p4 p5 p6) := ⟨_, rfl⟩
 rw [← hEE]
 obtain ⟨r1, r2, r3, r4, r5, r6, hr⟩ := resV_six p1 p2 p3 p4 p5 p6 EE
 rw [hr]
 have HRS : Hid (∀ W, Calls Tryz.prog 70 #[.agg #[.int .i64 p1, .int .i64 p2, .int .i64 p3, .int .i64 p4, .int .i64 p5, .int .i64 p6]] W fun e w' => e = .returned (.tuple #[.agg #[.int .i64 r1, .int .i64 r2, .int .i64 r3, .int .i64 r4, .int .i64 r5, .int .i64 r6], .int .i64 EE]) ∧ Below W.heap.size W w') := fun W => by have h := result_any p1 p2 p3 p4 p5 p6 W; rw [← hEE, hr] at h; exact h
 subst hE0
 clear hE hE1 hE2 hs hg hk hp1 hp2 hp3 hp4 hp5 hp6 hEE hr
 go_enter Tryz.func40, Tryz.ntmps40
 go_upto_region 1 with fail
 refine genT (fun V => Row V (w.heap.size) 35 [.int .i64 a, .int .i64 b, .int .i64 c, .int .i64 d, .int .i64 x, .int .i64 y] ∧ Row V (w.heap.size + 1) 35 [.int .i64 k, .int .i64 l, .int .i64 m, .int .i64 n, .int .i64 u, .int .i64 v] ∧ Row V (w.heap.size + 1 + 1) 35 [.int .i64 0, .int .i64 0, .int .i64 0, .int .i64 0, .int .i64 0, .int .i64 0] ∧ Below w.heap.size w V) ⟨(Row.alloc (Row.alloc (rowAt _ _ (by first | rfl | simp only [World.size_alloc])) _) _), (Row.alloc (rowAt _ _ (by first | rfl | simp only [World.size_alloc])) _), (rowAt _ _ (by first | rfl | simp only [World.size_alloc])), ((((Below.refl _ _).alloc (by first | exact Nat.le_refl _ | (simp only [World.size_alloc]; omega)) _).alloc (by first | exact Nat.le_refl _ | (simp only [World.size_alloc]; omega)) _).alloc (by first | exact Nat.le_refl _ | (simp only [World.size_alloc]; omega)) _)⟩ ?_
 intro W1 s1
 have HS1 := Lib.hid s1
 clear s1
 refine wp_region_held_drew (S := fun V => Row V (w.heap.size) 35 [.int .i64 a, .int .i64 b, .int .i64 c, .int .i64 d, .int .i64 x, .int .i64 y] ∧ Row V (w.heap.size + 1) 35 [.int .i64 k, .int .i64 l, .int .i64 m, .int .i64 n, .int .i64 u, .int .i64 v] ∧ Row V (w.heap.size + 1 + 1) 35 [.int .i64 0, .int .i64 0, .int .i64 0, .int .i64 0, .int .i64 0, .int .i64 0] ∧ Below w.heap.size w V) (by kernel_rfl) ?_ (fun hHeld => ?_)
 · exact ⟨(HS1.out.1).drew, (HS1.out.2.1).drew, (HS1.out.2.2.1).drew, (HS1.out.2.2.2).drew⟩
 refine tk 0 7 (.agg #[.int .i64 a, .int .i64 b, .int .i64 c, .int .i64 d, .int .i64 x, .int .i64 y]) rfl (by kernel_rfl) (fun _ _ _ h => h) (by kernel_rfl) (fun V hV => ex_rowT 35 _ rfl (w.heap.size) rfl 35 [.int .i64 a, .int .i64 b, .int .i64 c, .int .i64 d, .int .i64 x, .int .i64 y] _ Tryz.underlying35 rfl (by kernel_rfl) (hV.1)) hHeld ?_
 try simp only [zz]
 refine tk 2 9 (.agg #[.int .i64 k, .int .i64 l, .int .i64 m, .int .i64 n, .int .i64 u, .int .i64 v]) rfl (by kernel_rfl) (fun _ _ _ h => h) (by kernel_rfl) (fun V hV => ex_rowT 35 _ rfl (w.heap.size + 1) rfl 35 [.int .i64 k, .int .i64 l, .int .i64 m, .int .i64 n, .int .i64 u, .int .i64 v] _ Tryz.underlying35 rfl (by kernel_rfl) (hV.2.1)) hHeld ?_
 try simp only [zz]
 refine st2 1 (fun K hK => ?_)
 go_simp
 go_at_call 44
 refine (HC1.out _).mono ?_
 rintro e v1 ⟨rfl, hb1⟩
 try go_simp
 refine hK.out _ _ ?_ (fun hHeld => ?_)
 · exact ⟨(hHeld.1).old hb1, (hHeld.2.1).old hb1, (hHeld.2.2.1).old hb1, (hHeld.2.2.2).trans ((hb1).mono (hHeld.2.2.2).size)⟩
 clear hK K
 try simp only [zz]
 refine st2 3 (fun K hK => ?_)
 go_simp
 go_at_call 44
 refine (HC2.out _).mono ?_
 rintro e v3 ⟨rfl, hb3⟩
 try go_simp
 refine hK.out _ _ ?_ (fun hHeld => ?_)
 · exact ⟨(hHeld.1).old hb3, (hHeld.2.1).old hb3, (hHeld.2.2.1).old hb3, (hHeld.2.2.2).trans ((hb3).mono (hHeld.2.2.2).size)⟩
 clear hK K
 try simp only [zz]
 refine st2 4 (fun K hK => ?_)
 go_simp
 refine hK.out _ _ ?_ (fun hHeld => ?_)
 · exact ⟨(hHeld.1).old ((Below.refl _ _).alloc (Nat.le_refl _) _), (hHeld.2.1).old ((Below.refl _ _).alloc (Nat.le_refl _) _), (hHeld.2.2.1).old ((Below.refl _ _).alloc (Nat.le_refl _) _), (hHeld.2.2.2).trans ((((Below.refl _ _).alloc (Nat.le_refl _) _)).mono (hHeld.2.2.2).size)⟩
 clear hK K
 try simp only [zz]
 refine st2 5 (fun K hK => ?_)
 go_simp
 go_at_call 64
 refine (firstV_any _ _ _ [E1, E2] _ ?_ rfl (by simp)).mono ?_
 · exact Rd.newT (t := 32)
 rintro e v99 ⟨rfl, rfl⟩
 rw [HF.out]
 try go_simp
 refine hK.out _ _ ?_ (fun hHeld => ?_)
 · exact hHeld
 clear hK K
 try simp only [zz]
 refine ta 6 6 hHeld ?_
 try simp only [zz]
 refine wpAnyH_done (by kernel_rfl) ?_ _
 go_upto_region 4 with fail
 refine genT (fun V => Row V (w.heap.size) 35 [.int .i64 a, .int .i64 b, .int .i64 c, .int .i64 d, .int .i64 x, .int .i64 y] ∧ Row V (w.heap.size + 1) 35 [.int .i64 k, .int .i64 l, .int .i64 m, .int .i64 n, .int .i64 u, .int .i64 v] ∧ RowN V (w.heap.size + 1 + 1) 35 6 ∧ Below w.heap.size w V) ⟨hHeld.1, hHeld.2.1, ⟨_, rfl, hHeld.2.2.1⟩, hHeld.2.2.2⟩ ?_
 clear HS1 HC1 HC2 HF hHeld
 intro W4 s4
 have HS4 := Lib.hid s4
 clear s4
 refine wp_region_held_drew (S := fun V => Row V (w.heap.size) 35 [.int .i64 a, .int .i64 b, .int .i64 c, .int .i64 d, .int .i64 x, .int .i64 y] ∧ Row V (w.heap.size + 1) 35 [.int .i64 k, .int .i64 l, .int .i64 m, .int .i64 n, .int .i64 u, .int .i64 v] ∧ RowN V (w.heap.size + 1 + 1) 35 6 ∧ Below w.heap.size w V) (by kernel_rfl) ?_ (fun hHeld => ?_)
 · exact ⟨(HS4.out.1).drew, (HS4.out.2.1).drew, (HS4.out.2.2.1).drew, (HS4.out.2.2.2).drew⟩
 refine ta 0 17 hHeld ?_
 try simp only [zz]
 refine tk 1 18 (.agg #[.int .i64 a, .int .i64 b]) rfl (by kernel_rfl) (fun _ _ _ h => h) (by kernel_rfl) (fun V hV => ex_Gauss _ rfl (w.heap.size) 0 rfl ((hV.1).cell 0) ((hV.1).cell 1)) hHeld ?_
 try simp only [zz]
 refine ta 2 19 hHeld ?_
 try simp only [zz]
 refine tk 3 20 (.agg #[.int .i64 k, .int .i64 l]) rfl (by kernel_rfl) (fun _ _ _ h => h) (by kernel_rfl) (fun V hV => ex_Gauss _ rfl (w.heap.size + 1) 0 rfl ((hV.2.1).cell 0) ((hV.2.1).cell 1)) hHeld ?_
 try simp only [zz]
 refine ta 5 22 hHeld ?_
 try simp only [zz]
 refine tk 6 23 (.agg #[.int .i64 c, .int .i64 d]) rfl (by kernel_rfl) (fun _ _ _ h => h) (by kernel_rfl) (fun V hV => ex_Gauss _ rfl (w.heap.size) 2 rfl ((hV.1).cell 2) ((hV.1).cell 3)) hHeld ?_
 try simp only [zz]
 refine ta 7 24 hHeld ?_
 try simp only [zz]
 refine tk 8 25 (.agg #[.int .i64 m, .int .i64 n]) rfl (by kernel_rfl) (fun _ _ _ h => h) (by kernel_rfl) (fun V hV => ex_Gauss _ rfl (w.heap.size + 1) 2 rfl ((hV.2.1).cell 2) ((hV.2.1).cell 3)) hHeld ?_
 try simp only [zz]
 refine ta 10 27 hHeld ?_
 try simp only [zz]
 refine tk 11 28 (.agg #[.int .i64 x, .int .i64 y]) rfl (by kernel_rfl) (fun _ _ _ h => h) (by kernel_rfl) (fun V hV => ex_Gauss _ rfl (w.heap.size) 4 rfl ((hV.1).cell 4) ((hV.1).cell 5)) hHeld ?_
 try simp only [zz]
 refine ta 12 29 hHeld ?_
 try simp only [zz]
 refine tk 13 30 (.agg #[.int .i64 u, .int .i64 v]) rfl (by kernel_rfl) (fun _ _ _ h => h) (by kernel_rfl) (fun V hV => ex_Gauss _ rfl (w.heap.size + 1) 4 rfl ((hV.2.1).cell 4) ((hV.2.1).cell 5)) hHeld ?_
 try simp only [zz]
 refine st2 4 (fun K hK => ?_)
 go_simp
 go_at_call 96
 refine (HP1.out _).mono ?_
 rintro e v4 ⟨rfl, hb4⟩
 try go_simp
 refine hK.out _ _ ?_ (fun hHeld => ?_)
 · exact ⟨(hHeld.1).old hb4, (hHeld.2.1).old hb4, (hHeld.2.2.1).old hb4, (hHeld.2.2.2).trans ((hb4).mono (hHeld.2.2.2).size)⟩
 clear hK K
 try simp only [zz]
 refine st2 9 (fun K hK => ?_)
 go_simp
 go_at_call 96
 refine (HP2.out _).mono ?_
 rintro e v9 ⟨rfl, hb9⟩
 try go_simp
 refine hK.out _ _ ?_ (fun hHeld => ?_)
 · exact ⟨(hHeld.1).old hb9, (hHeld.2.1).old hb9, (hHeld.2.2.1).old hb9, (hHeld.2.2.2).trans ((hb9).mono (hHeld.2.2.2).size)⟩
 clear hK K
 try simp only [zz]
 refine st2 14 (fun K hK => ?_)
 go_simp
 go_at_call 96
 refine (HP3.out _).mono ?_
 rintro e v14 ⟨rfl, hb14⟩
 try go_simp
 refine hK.out _ _ ?_ (fun hHeld => ?_)
 · exact ⟨(hHeld.1).old hb14, (hHeld.2.1).old hb14, (hHeld.2.2.1).old hb14, (hHeld.2.2.2).trans ((hb14).mono (hHeld.2.2.2).size)⟩
 clear hK K
 try simp only [zz]
 refine ta 15 32 hHeld ?_
 try simp only [zz]
 refine st2 16 (fun K hK => ?_)
 go_simp
 go_at_call 70
 refine (HRS.out _).mono ?_
 rintro e v16 ⟨rfl, hb16⟩
 try go_simp
 refine hK.out _ _ ?_ (fun hHeld => ?_)
 · exact ⟨(hHeld.1).old hb16, (hHeld.2.1).old hb16, (hHeld.2.2.1).old hb16, (hHeld.2.2.2).trans ((hb16).mono (hHeld.2.2.2).size)⟩
 clear hK K
 try simp only [zz]
 refine ta 17 34 hHeld ?_
 try simp only [zz]
 refine ta 18 35 hHeld ?_
 try simp only [zz]
 refine st2 19 (fun K hK => ?_)
 obtain ⟨vs, hvl, hvr⟩ := (hHeld.2.2.1)
 have hLast := hHeld
 refine step_store_row rfl 35 _ _ rfl (w.heap.size + 1 + 1) [.int .i64 r1, .int .i64 r2, .int .i64 r3, .int .i64 r4, .int .i64 r5, .int .i64 r6] rfl rfl 35 vs hvr (by kernel_rfl) hvl (by simp [Value.oneCell']) ?_
 refine hK.out _ _ ?_ (fun hHeld => ?_)
 · exact ⟨(hHeld.1).farRow (by omega) _, (hHeld.2.1).farRow (by omega) _, ⟨_, rfl, hvr.setRow _⟩, Below.setRow (hHeld.2.2.2) (by omega) _⟩
 clear hK K
 try simp only [zz]
 refine ta 20 5 hHeld ?_
 try simp only [zz]
 refine wpAnyH_done (by kernel_rfl) ?_ _
 go_wp2_with fail
 refine bodyPost_ret (results_rt rfl _ _ (w.heap.size + 1 + 1) 35 #[.int .i64 r1, .int .i64 r2, .int .i64 r3, .int .i64 r4, .int .i64 r5, .int .i64 r6] (0, 0) _ rfl (hvr.setRow [.int .i64 r1, .int .i64 r2, .int .i64 r3, .int .i64 r4, .int .i64 r5, .int .i64 r6]) Tryz.underlying35 rfl (by kernel_rfl)) rfl ⟨rfl, Below.setRow hLast.2.2.2 (by omega) _⟩
theorem scaled_walk (a b c d x y k l m n E ER p1 p2 p3 p4 p5 p6 r1 r2 r3 r4 r5 r6 : Int) (w : World) (hE : firstI [sigE a b c d x y, firstI ([(k, l)].map (partE 1000)), whenI (k == 0 && l == 0) 6, firstI ([(m, n)].map (partE 1000))] = E) (hb : E ≠ 0 → ER = E ∧ r1 = 0 ∧ r2 = 0 ∧ r3 = 0 ∧ r4 = 0 ∧ r5 = 0 ∧ r6 = 0) (hm : E = 0 → (∀ W, Calls Tryz.prog 66 #[.agg #[.int .i64 a, .int .i64 b, .int .i64 c, .int .i64 d, .int .i64 x, .int .i64 y], .agg #[.int .i64 k, .int .i64 l], .agg #[.int .i64 m, .int .i64 n]] W fun e w' => e = .returned (.agg #[.int .i64 p1, .int .i64 p2, .int .i64 p3, .int .i64 p4, .int .i64 p5, .int .i64 p6]) ∧ Below W.heap.size W w')) (hr : E = 0 → (∀ W, Calls Tryz.prog 70 #[.agg #[.int .i64 p1, .int .i64 p2, .int .i64 p3, .int .i64 p4, .int .i64 p5, .int .i64 p6]] W fun e w' => e = .returned (.tuple #[.agg #[.int .i64 r1, .int .i64 r2, .int .i64 r3, .int .i64 r4, .int .i64 r5, .int .i64 r6], .int .i64 ER]) ∧ Below W.heap.size W w')) : Calls Tryz.prog 25 #[.agg #[.int .i64 a, .int .i64 b, .int .i64 c, .int .i64 d, .int .i64 x, .int .i64 y], .agg #[.int .i64 k, .int .i64 l], .agg #[.int .i64 m, .int .i64 n]] w fun e w' => e = .returned (.tuple #[.agg #[.int .i64 r1, .int .i64 r2, .int .i64 r3, .int .i64 r4, .int .i64 r5, .int .i64 r6], .int .i64 ER]) ∧ Below w.heap.size w w' := by
 obtain ⟨E1, hE1⟩ : ∃ E1, E1 = sigE a b c d x y := ⟨_, rfl⟩
 obtain ⟨E2, hE2⟩ : ∃ E2, E2 = firstI ([(k, l)].map (partE 1000)) := ⟨_, rfl⟩
 obtain ⟨zb, hzb⟩ : ∃ zb, zb = (k == 0 && l == 0) := ⟨_, rfl⟩
 obtain ⟨E4, hE4⟩ : ∃ E4, E4 = firstI ([(m, n)].map (partE 1000)) := ⟨_, rfl⟩
 rw [← hE1, ← hE2, ← hzb, ← hE4] at hE
 have HF : Hid (firstI [E1, E2, whenI zb 6, E4] = E) := hE
 have HC : Hid (∀ W, Calls Tryz.prog 44 #[.agg #[.int .i64 a, .int .i64 b, .int .i64 c, .int .i64 d, .int .i64 x, .int .i64 y]] W fun e w' => e = .returned (.int .i64 E1) ∧ Below W.heap.size W w') := fun W => by rw [hE1]; exact checkSignal_any a b c d x y W
 have HP2 : Hid (∀ W q, Row W q 23 [.int .i64 k, .int .i64 l] → Calls Tryz.prog 68 #[.int .i64 1000, .slice (some ⟨q, 0, none⟩) 1 1] W fun e w' => e = .returned (.int .i64 E2) ∧ Below W.heap.size W w') := fun W q h => by rw [hE2]; exact checkParts_any (some ⟨q, 0, none⟩) 1 1 [(k, l)] 1000 W (Rd.row h) rfl (by decide) (by simp)
 have HP4 : Hid (∀ W q, Row W q 23 [.int .i64 m, .int .i64 n] → Calls Tryz.prog 68 #[.int .i64 1000, .slice (some ⟨q, 0, none⟩) 1 1] W fun e w' => e = .returned (.int .i64 E4) ∧ Below W.heap.size W w') := fun W q h => by rw [hE4]; exact checkParts_any (some ⟨q, 0, none⟩) 1 1 [(m, n)] 1000 W (Rd.row h) rfl (by decide) (by simp)
 have hz : ∀ w, (binOp .eql 23 (.agg #[.int .i64 k, .int .i64 l]) (.agg #[.int .i64 0, .int .i64 0])).run Tryz.prog w = .ok (.bool zb) w := fun w => by rw [hzb]; exact eqlGauss k l 0 0 w
 have HB0 := Lib.hid hb; have HM0 := Lib.hid hm; have HR0 := Lib.hid hr
 clear hE hE1 hE2 hzb hE4 hb hm hr
 go_enter Tryz.func25, Tryz.ntmps25
 go_upto_region 1 with fail
 refine genT (fun V => Row V (w.heap.size) 35 [.int .i64 a, .int .i64 b, .int .i64 c, .int .i64 d, .int .i64 x, .int .i64 y] ∧ Row V (w.heap.size + 1) 23 [.int .i64 k, .int .i64 l] ∧ Row V (w.heap.size + 1 + 1) 23 [.int .i64 m, .int .i64 n] ∧ Row V (w.heap.size + 1 + 1 + 1) 35 [.int .i64 0, .int .i64 0, .int .i64 0, .int .i64 0, .int .i64 0, .int .i64 0] ∧ Below w.heap.size w V) ⟨(Row.alloc (Row.alloc (Row.alloc (rowAt _ _ (by first | rfl | simp only [World.size_alloc])) _) _) _), (Row.alloc (Row.alloc (rowAt _ _ (by first | rfl | simp only [World.size_alloc])) _) _), (Row.alloc (rowAt _ _ (by first | rfl | simp only [World.size_alloc])) _), (rowAt _ _ (by first | rfl | simp only [World.size_alloc])), (((((Below.refl _ _).alloc (by first | exact Nat.le_refl _ | (simp only [World.size_alloc]; omega)) _).alloc (by first | exact Nat.le_refl _ | (simp only [World.size_alloc]; omega)) _).alloc (by first | exact Nat.le_refl _ | (simp only [World.size_alloc]; omega)) _).alloc (by first | exact Nat.le_refl _ | (simp only [World.size_alloc]; omega)) _)⟩ ?_
 intro W1 s1
 have HS1 := Lib.hid s1
 clear s1
 go_upto_region 1 with fail
 go_cut [8] from 9 to 23 (fun s8 wx => s8 = .int .i64 E ∧ Row wx (w.heap.size) 35 [.int .i64 a, .int .i64 b, .int .i64 c, .int .i64 d, .int .i64 x, .int .i64 y] ∧ Row wx (w.heap.size + 1) 23 [.int .i64 k, .int .i64 l] ∧ Row wx (w.heap.size + 1 + 1) 23 [.int .i64 m, .int .i64 n] ∧ Row wx (w.heap.size + 1 + 1 + 1) 35 [.int .i64 0, .int .i64 0, .int .i64 0, .int .i64 0, .int .i64 0, .int .i64 0] ∧ Below w.heap.size w wx)
 case first =>
  clear HB0 HM0 HR0
  refine wp_region_held_drew (S := fun V => Row V (w.heap.size) 35 [.int .i64 a, .int .i64 b, .int .i64 c, .int .i64 d, .int .i64 x, .int .i64 y] ∧ Row V (w.heap.size + 1) 23 [.int .i64 k, .int .i64 l] ∧ Row V (w.heap.size + 1 + 1) 23 [.int .i64 m, .int .i64 n] ∧ Row V (w.heap.size + 1 + 1 + 1) 35 [.int .i64 0, .int .i64 0, .int .i64 0, .int .i64 0, .int .i64 0, .int .i64 0] ∧ Below w.heap.size w V) (by kernel_rfl) ?_ (fun hHeld => ?_)
  · exact ⟨(HS1.out.1).drew, (HS1.out.2.1).drew, (HS1.out.2.2.1).drew, (HS1.out.2.2.2.1).drew, (HS1.out.2.2.2.2).drew⟩
  refine tk 0 9 (.agg #[.int .i64 a, .int .i64 b, .int .i64 c, .int .i64 d, .int .i64 x, .int .i64 y]) rfl (by kernel_rfl) (fun _ _ _ h => h) (by kernel_rfl) (fun V hV => ex_rowT 35 _ rfl (w.heap.size) rfl 35 [.int .i64 a, .int .i64 b, .int .i64 c, .int .i64 d, .int .i64 x, .int .i64 y] _ Tryz.underlying35 rfl (by kernel_rfl) (hV.1)) hHeld ?_
  try simp only [zz]
  refine tk 2 11 (.agg #[.int .i64 k, .int .i64 l]) rfl (by kernel_rfl) (fun _ _ _ h => h) (by kernel_rfl) (fun V hV => ex_rowT 23 _ rfl (w.heap.size + 1) rfl 23 [.int .i64 k, .int .i64 l] _ Tryz.underlying23 rfl (by kernel_rfl) (hV.2.1)) hHeld ?_
  try simp only [zz]
  refine tk 5 14 (.agg #[.int .i64 k, .int .i64 l]) rfl (by kernel_rfl) (fun _ _ _ h => h) (by kernel_rfl) (fun V hV => ex_rowT 23 _ rfl (w.heap.size + 1) rfl 23 [.int .i64 k, .int .i64 l] _ Tryz.underlying23 rfl (by kernel_rfl) (hV.2.1)) hHeld ?_
  try simp only [zz]
  refine ta 6 15 hHeld ?_
  try simp only [zz]
  refine ta 7 16 hHeld ?_
  try simp only [zz]
  refine tk 9 18 (.agg #[.int .i64 m, .int .i64 n]) rfl (by kernel_rfl) (fun _ _ _ h => h) (by kernel_rfl) (fun V hV => ex_rowT 23 _ rfl (w.heap.size + 1 + 1) rfl 23 [.int .i64 m, .int .i64 n] _ Tryz.underlying23 rfl (by kernel_rfl) (hV.2.2.1)) hHeld ?_
  try simp only [zz]
  refine wpAnyH_ready (rs := [1, 3, 10]) (by kernel_rfl) (by simp) ?_
  refine AllReadyH.cons rfl (fun K hK => ?_) (AllReadyH.cons rfl (fun K hK => ?_) (AllReadyH.cons rfl (fun K hK => ?_) (AllReadyH.nil)))
  ·
   go_simp
   go_at_call 44
   refine (HC.out _).mono ?_
   rintro e v1 ⟨rfl, hb1⟩
   try go_simp
   refine hK.out _ _ ?_ (fun hHeld => ?_)
   · exact ⟨(hHeld.1).old hb1, (hHeld.2.1).old hb1, (hHeld.2.2.1).old hb1, (hHeld.2.2.2.1).old hb1, (hHeld.2.2.2.2).trans ((hb1).mono (hHeld.2.2.2.2).size)⟩
   clear hK K
   try simp only [zz]
   refine st3 3 10 (fun K hK => ?_) (fun K hK => ?_)
   ·
    go_simp
    refine hK.out _ _ ?_ (fun hHeld => ?_)
    · exact ⟨(hHeld.1).old ((Below.refl _ _).alloc (Nat.le_refl _) _), (hHeld.2.1).old ((Below.refl _ _).alloc (Nat.le_refl _) _), (hHeld.2.2.1).old ((Below.refl _ _).alloc (Nat.le_refl _) _), (hHeld.2.2.2.1).old ((Below.refl _ _).alloc (Nat.le_refl _) _), (hHeld.2.2.2.2).trans ((((Below.refl _ _).alloc (Nat.le_refl _) _)).mono (hHeld.2.2.2.2).size)⟩
    clear hK K
    try simp only [zz]
    refine st3 4 10 (fun K hK => ?_) (fun K hK => ?_)
    ·
     go_simp
     go_at_call 68
     refine (HP2.out _ _ rwAC).mono ?_
     rintro e v4 ⟨rfl, hb4⟩
     try go_simp
     refine hK.out _ _ ?_ (fun hHeld => ?_)
     · exact ⟨(hHeld.1).old hb4, (hHeld.2.1).old hb4, (hHeld.2.2.1).old hb4, (hHeld.2.2.2.1).old hb4, (hHeld.2.2.2.2).trans ((hb4).mono (hHeld.2.2.2.2).size)⟩
     clear hK K
     try simp only [zz]
     refine st3 8 10 (fun K hK => ?_) (fun K hK => ?_)
     ·
      go_simp
      go_at_call 69
      refine (failed_any zb 6 _).mono ?_
      rintro e v8 ⟨rfl, rfl⟩
      try go_simp
      refine hK.out _ _ ?_ (fun hHeld => ?_)
      · exact hHeld
      clear hK K
      try simp only [zz]
      refine st2 10 (fun K hK => ?_)
      go_simp
      refine hK.out _ _ ?_ (fun hHeld => ?_)
      · exact ⟨(hHeld.1).old ((Below.refl _ _).alloc (Nat.le_refl _) _), (hHeld.2.1).old ((Below.refl _ _).alloc (Nat.le_refl _) _), (hHeld.2.2.1).old ((Below.refl _ _).alloc (Nat.le_refl _) _), (hHeld.2.2.2.1).old ((Below.refl _ _).alloc (Nat.le_refl _) _), (hHeld.2.2.2.2).trans ((((Below.refl _ _).alloc (Nat.le_refl _) _)).mono (hHeld.2.2.2.2).size)⟩
      clear hK K
      try simp only [zz]
      refine st2 11 (fun K hK => ?_)
      go_simp
      go_at_call 68
      refine (HP4.out _ _ rwAC).mono ?_
      rintro e v11 ⟨rfl, hb11⟩
      try go_simp
      refine hK.out _ _ ?_ (fun hHeld => ?_)
      · exact ⟨(hHeld.1).old hb11, (hHeld.2.1).old hb11, (hHeld.2.2.1).old hb11, (hHeld.2.2.2.1).old hb11, (hHeld.2.2.2.2).trans ((hb11).mono (hHeld.2.2.2.2).size)⟩
      clear hK K
      try simp only [zz]
      refine st2 12 (fun K hK => ?_)
      go_simp
      refine hK.out _ _ ?_ (fun hHeld => ?_)
      · exact ⟨(hHeld.1).old ((Below.refl _ _).alloc (Nat.le_refl _) _), (hHeld.2.1).old ((Below.refl _ _).alloc (Nat.le_refl _) _), (hHeld.2.2.1).old ((Below.refl _ _).alloc (Nat.le_refl _) _), (hHeld.2.2.2.1).old ((Below.refl _ _).alloc (Nat.le_refl _) _), (hHeld.2.2.2.2).trans ((((Below.refl _ _).alloc (Nat.le_refl _) _)).mono (hHeld.2.2.2.2).size)⟩
      clear hK K
      try simp only [zz]
      refine st2 13 (fun K hK => ?_)
      go_simp
      go_at_call 64
      refine (firstV_any _ _ _ [E1, E2, whenI zb 6, E4] _ ?_ rfl (by simp)).mono ?_
      · exact Rd.newT (t := 32)
      rintro e v99 ⟨rfl, rfl⟩
      try go_simp
      refine hK.out _ _ ?_ (fun hHeld => ?_)
      · exact hHeld
      clear hK K
      try simp only [zz]
      refine ta 14 8 hHeld ?_
      try simp only [zz]
      refine wpAnyH_done (by kernel_rfl) ?_ _
      go_wp2_with fail
      go_meet
      exact ⟨by rw [HF.out], hHeld⟩
     ·
      go_simp
      refine hK.out _ _ ?_ (fun hHeld => ?_)
      · exact ⟨(hHeld.1).old ((Below.refl _ _).alloc (Nat.le_refl _) _), (hHeld.2.1).old ((Below.refl _ _).alloc (Nat.le_refl _) _), (hHeld.2.2.1).old ((Below.refl _ _).alloc (Nat.le_refl _) _), (hHeld.2.2.2.1).old ((Below.refl _ _).alloc (Nat.le_refl _) _), (hHeld.2.2.2.2).trans ((((Below.refl _ _).alloc (Nat.le_refl _) _)).mono (hHeld.2.2.2.2).size)⟩
      clear hK K
      try simp only [zz]
      refine st2 8 (fun K hK => ?_)
      go_simp
      go_at_call 69
      refine (failed_any zb 6 _).mono ?_
      rintro e v8 ⟨rfl, rfl⟩
      try go_simp
      refine hK.out _ _ ?_ (fun hHeld => ?_)
      · exact hHeld
      clear hK K
      try simp only [zz]
      refine st2 11 (fun K hK => ?_)
      go_simp
      go_at_call 68
      refine (HP4.out _ _ rwAC).mono ?_
      rintro e v11 ⟨rfl, hb11⟩
      try go_simp
      refine hK.out _ _ ?_ (fun hHeld => ?_)
      · exact ⟨(hHeld.1).old hb11, (hHeld.2.1).old hb11, (hHeld.2.2.1).old hb11, (hHeld.2.2.2.1).old hb11, (hHeld.2.2.2.2).trans ((hb11).mono (hHeld.2.2.2.2).size)⟩
      clear hK K
      try simp only [zz]
      refine st2 12 (fun K hK => ?_)
      go_simp
      refine hK.out _ _ ?_ (fun hHeld => ?_)
      · exact ⟨(hHeld.1).old ((Below.refl _ _).alloc (Nat.le_refl _) _), (hHeld.2.1).old ((Below.refl _ _).alloc (Nat.le_refl _) _), (hHeld.2.2.1).old ((Below.refl _ _).alloc (Nat.le_refl _) _), (hHeld.2.2.2.1).old ((Below.refl _ _).alloc (Nat.le_refl _) _), (hHeld.2.2.2.2).trans ((((Below.refl _ _).alloc (Nat.le_refl _) _)).mono (hHeld.2.2.2.2).size)⟩
      clear hK K
      try simp only [zz]
      refine st2 13 (fun K hK => ?_)
      go_simp
      go_at_call 64
      refine (firstV_any _ _ _ [E1, E2, whenI zb 6, E4] _ ?_ rfl (by simp)).mono ?_
      · exact Rd.newT (t := 32)
      rintro e v99 ⟨rfl, rfl⟩
      try go_simp
      refine hK.out _ _ ?_ (fun hHeld => ?_)
      · exact hHeld
      clear hK K
      try simp only [zz]
      refine ta 14 8 hHeld ?_
      try simp only [zz]
      refine wpAnyH_done (by kernel_rfl) ?_ _
      go_wp2_with fail
      go_meet
      exact ⟨by rw [HF.out], hHeld⟩
    ·
     go_simp
     refine hK.out _ _ ?_ (fun hHeld => ?_)
     · exact ⟨(hHeld.1).old ((Below.refl _ _).alloc (Nat.le_refl _) _), (hHeld.2.1).old ((Below.refl _ _).alloc (Nat.le_refl _) _), (hHeld.2.2.1).old ((Below.refl _ _).alloc (Nat.le_refl _) _), (hHeld.2.2.2.1).old ((Below.refl _ _).alloc (Nat.le_refl _) _), (hHeld.2.2.2.2).trans ((((Below.refl _ _).alloc (Nat.le_refl _) _)).mono (hHeld.2.2.2.2).size)⟩
     clear hK K
     try simp only [zz]
     refine st2 4 (fun K hK => ?_)
     go_simp
     go_at_call 68
     refine (HP2.out _ _ rwAC).mono ?_
     rintro e v4 ⟨rfl, hb4⟩
     try go_simp
     refine hK.out _ _ ?_ (fun hHeld => ?_)
     · exact ⟨(hHeld.1).old hb4, (hHeld.2.1).old hb4, (hHeld.2.2.1).old hb4, (hHeld.2.2.2.1).old hb4, (hHeld.2.2.2.2).trans ((hb4).mono (hHeld.2.2.2.2).size)⟩
     clear hK K
     try simp only [zz]
     refine st2 8 (fun K hK => ?_)
     go_simp
     go_at_call 69
     refine (failed_any zb 6 _).mono ?_
     rintro e v8 ⟨rfl, rfl⟩
     try go_simp
     refine hK.out _ _ ?_ (fun hHeld => ?_)
     · exact hHeld
     clear hK K
     try simp only [zz]
     refine st2 11 (fun K hK => ?_)
     go_simp
     go_at_call 68
     refine (HP4.out _ _ rwAC).mono ?_
     rintro e v11 ⟨rfl, hb11⟩
     try go_simp
     refine hK.out _ _ ?_ (fun hHeld => ?_)
     · exact ⟨(hHeld.1).old hb11, (hHeld.2.1).old hb11, (hHeld.2.2.1).old hb11, (hHeld.2.2.2.1).old hb11, (hHeld.2.2.2.2).trans ((hb11).mono (hHeld.2.2.2.2).size)⟩
     clear hK K
     try simp only [zz]
     refine st2 12 (fun K hK => ?_)
     go_simp
     refine hK.out _ _ ?_ (fun hHeld => ?_)
     · exact ⟨(hHeld.1).old ((Below.refl _ _).alloc (Nat.le_refl _) _), (hHeld.2.1).old ((Below.refl _ _).alloc (Nat.le_refl _) _), (hHeld.2.2.1).old ((Below.refl _ _).alloc (Nat.le_refl _) _), (hHeld.2.2.2.1).old ((Below.refl _ _).alloc (Nat.le_refl _) _), (hHeld.2.2.2.2).trans ((((Below.refl _ _).alloc (Nat.le_refl _) _)).mono (hHeld.2.2.2.2).size)⟩
     clear hK K
     try simp only [zz]
     refine st2 13 (fun K hK => ?_)
     go_simp
     go_at_call 64
     refine (firstV_any _ _ _ [E1, E2, whenI zb 6, E4] _ ?_ rfl (by simp)).mono ?_
     · exact Rd.newT (t := 32)
     rintro e v99 ⟨rfl, rfl⟩
     try go_simp
     refine hK.out _ _ ?_ (fun hHeld => ?_)
     · exact hHeld
     clear hK K
     try simp only [zz]
     refine ta 14 8 hHeld ?_
     try simp only [zz]
     refine wpAnyH_done (by kernel_rfl) ?_ _
     go_wp2_with fail
     go_meet
     exact ⟨by rw [HF.out], hHeld⟩
   ·
    go_simp
    refine hK.out _ _ ?_ (fun hHeld => ?_)
    · exact ⟨(hHeld.1).old ((Below.refl _ _).alloc (Nat.le_refl _) _), (hHeld.2.1).old ((Below.refl _ _).alloc (Nat.le_refl _) _), (hHeld.2.2.1).old ((Below.refl _ _).alloc (Nat.le_refl _) _), (hHeld.2.2.2.1).old ((Below.refl _ _).alloc (Nat.le_refl _) _), (hHeld.2.2.2.2).trans ((((Below.refl _ _).alloc (Nat.le_refl _) _)).mono (hHeld.2.2.2.2).size)⟩
    clear hK K
    try simp only [zz]
    refine st2 3 (fun K hK => ?_)
    go_simp
    refine hK.out _ _ ?_ (fun hHeld => ?_)
    · exact ⟨(hHeld.1).old ((Below.refl _ _).alloc (Nat.le_refl _) _), (hHeld.2.1).old ((Below.refl _ _).alloc (Nat.le_refl _) _), (hHeld.2.2.1).old ((Below.refl _ _).alloc (Nat.le_refl _) _), (hHeld.2.2.2.1).old ((Below.refl _ _).alloc (Nat.le_refl _) _), (hHeld.2.2.2.2).trans ((((Below.refl _ _).alloc (Nat.le_refl _) _)).mono (hHeld.2.2.2.2).size)⟩
    clear hK K
    try simp only [zz]
    refine st2 4 (fun K hK => ?_)
    go_simp
    go_at_call 68
    refine (HP2.out _ _ rwAC).mono ?_
    rintro e v4 ⟨rfl, hb4⟩
    try go_simp
    refine hK.out _ _ ?_ (fun hHeld => ?_)
    · exact ⟨(hHeld.1).old hb4, (hHeld.2.1).old hb4, (hHeld.2.2.1).old hb4, (hHeld.2.2.2.1).old hb4, (hHeld.2.2.2.2).trans ((hb4).mono (hHeld.2.2.2.2).size)⟩
    clear hK K
    try simp only [zz]
    refine st2 8 (fun K hK => ?_)
    go_simp
    go_at_call 69
    refine (failed_any zb 6 _).mono ?_
    rintro e v8 ⟨rfl, rfl⟩
    try go_simp
    refine hK.out _ _ ?_ (fun hHeld => ?_)
    · exact hHeld
    clear hK K
    try simp only [zz]
    refine st2 11 (fun K hK => ?_)
    go_simp
    go_at_call 68
    refine (HP4.out _ _ rwAC).mono ?_
    rintro e v11 ⟨rfl, hb11⟩
    try go_simp
    refine hK.out _ _ ?_ (fun hHeld => ?_)
    · exact ⟨(hHeld.1).old hb11, (hHeld.2.1).old hb11, (hHeld.2.2.1).old hb11, (hHeld.2.2.2.1).old hb11, (hHeld.2.2.2.2).trans ((hb11).mono (hHeld.2.2.2.2).size)⟩
    clear hK K
    try simp only [zz]
    refine st2 12 (fun K hK => ?_)
    go_simp
    refine hK.out _ _ ?_ (fun hHeld => ?_)
    · exact ⟨(hHeld.1).old ((Below.refl _ _).alloc (Nat.le_refl _) _), (hHeld.2.1).old ((Below.refl _ _).alloc (Nat.le_refl _) _), (hHeld.2.2.1).old ((Below.refl _ _).alloc (Nat.le_refl _) _), (hHeld.2.2.2.1).old ((Below.refl _ _).alloc (Nat.le_refl _) _), (hHeld.2.2.2.2).trans ((((Below.refl _ _).alloc (Nat.le_refl _) _)).mono (hHeld.2.2.2.2).size)⟩
    clear hK K
    try simp only [zz]
    refine st2 13 (fun K hK => ?_)
    go_simp
    go_at_call 64
    refine (firstV_any _ _ _ [E1, E2, whenI zb 6, E4] _ ?_ rfl (by simp)).mono ?_
    · exact Rd.newT (t := 32)
    rintro e v99 ⟨rfl, rfl⟩
    try go_simp
    refine hK.out _ _ ?_ (fun hHeld => ?_)
    · exact hHeld
    clear hK K
    try simp only [zz]
    refine ta 14 8 hHeld ?_
    try simp only [zz]
    refine wpAnyH_done (by kernel_rfl) ?_ _
    go_wp2_with fail
    go_meet
    exact ⟨by rw [HF.out], hHeld⟩
  ·
   go_simp
   refine hK.out _ _ ?_ (fun hHeld => ?_)
   · exact ⟨(hHeld.1).old ((Below.refl _ _).alloc (Nat.le_refl _) _), (hHeld.2.1).old ((Below.refl _ _).alloc (Nat.le_refl _) _), (hHeld.2.2.1).old ((Below.refl _ _).alloc (Nat.le_refl _) _), (hHeld.2.2.2.1).old ((Below.refl _ _).alloc (Nat.le_refl _) _), (hHeld.2.2.2.2).trans ((((Below.refl _ _).alloc (Nat.le_refl _) _)).mono (hHeld.2.2.2.2).size)⟩
   clear hK K
   try simp only [zz]
   refine st3 1 10 (fun K hK => ?_) (fun K hK => ?_)
   ·
    go_simp
    go_at_call 44
    refine (HC.out _).mono ?_
    rintro e v1 ⟨rfl, hb1⟩
    try go_simp
    refine hK.out _ _ ?_ (fun hHeld => ?_)
    · exact ⟨(hHeld.1).old hb1, (hHeld.2.1).old hb1, (hHeld.2.2.1).old hb1, (hHeld.2.2.2.1).old hb1, (hHeld.2.2.2.2).trans ((hb1).mono (hHeld.2.2.2.2).size)⟩
    clear hK K
    try simp only [zz]
    refine st3 4 10 (fun K hK => ?_) (fun K hK => ?_)
    ·
     go_simp
     go_at_call 68
     refine (HP2.out _ _ rwAC).mono ?_
     rintro e v4 ⟨rfl, hb4⟩
     try go_simp
     refine hK.out _ _ ?_ (fun hHeld => ?_)
     · exact ⟨(hHeld.1).old hb4, (hHeld.2.1).old hb4, (hHeld.2.2.1).old hb4, (hHeld.2.2.2.1).old hb4, (hHeld.2.2.2.2).trans ((hb4).mono (hHeld.2.2.2.2).size)⟩
     clear hK K
     try simp only [zz]
     refine st3 8 10 (fun K hK => ?_) (fun K hK => ?_)
     ·
      go_simp
      go_at_call 69
      refine (failed_any zb 6 _).mono ?_
      rintro e v8 ⟨rfl, rfl⟩
      try go_simp
      refine hK.out _ _ ?_ (fun hHeld => ?_)
      · exact hHeld
      clear hK K
      try simp only [zz]
      refine st2 10 (fun K hK => ?_)
      go_simp
      refine hK.out _ _ ?_ (fun hHeld => ?_)
      · exact ⟨(hHeld.1).old ((Below.refl _ _).alloc (Nat.le_refl _) _), (hHeld.2.1).old ((Below.refl _ _).alloc (Nat.le_refl _) _), (hHeld.2.2.1).old ((Below.refl _ _).alloc (Nat.le_refl _) _), (hHeld.2.2.2.1).old ((Below.refl _ _).alloc (Nat.le_refl _) _), (hHeld.2.2.2.2).trans ((((Below.refl _ _).alloc (Nat.le_refl _) _)).mono (hHeld.2.2.2.2).size)⟩
      clear hK K
      try simp only [zz]
      refine st2 11 (fun K hK => ?_)
      go_simp
      go_at_call 68
      refine (HP4.out _ _ rwAC).mono ?_
      rintro e v11 ⟨rfl, hb11⟩
      try go_simp
      refine hK.out _ _ ?_ (fun hHeld => ?_)
      · exact ⟨(hHeld.1).old hb11, (hHeld.2.1).old hb11, (hHeld.2.2.1).old hb11, (hHeld.2.2.2.1).old hb11, (hHeld.2.2.2.2).trans ((hb11).mono (hHeld.2.2.2.2).size)⟩
      clear hK K
      try simp only [zz]
      refine st2 12 (fun K hK => ?_)
      go_simp
      refine hK.out _ _ ?_ (fun hHeld => ?_)
      · exact ⟨(hHeld.1).old ((Below.refl _ _).alloc (Nat.le_refl _) _), (hHeld.2.1).old ((Below.refl _ _).alloc (Nat.le_refl _) _), (hHeld.2.2.1).old ((Below.refl _ _).alloc (Nat.le_refl _) _), (hHeld.2.2.2.1).old ((Below.refl _ _).alloc (Nat.le_refl _) _), (hHeld.2.2.2.2).trans ((((Below.refl _ _).alloc (Nat.le_refl _) _)).mono (hHeld.2.2.2.2).size)⟩
      clear hK K
      try simp only [zz]
      refine st2 13 (fun K hK => ?_)
      go_simp
      go_at_call 64
      refine (firstV_any _ _ _ [E1, E2, whenI zb 6, E4] _ ?_ rfl (by simp)).mono ?_
      · exact Rd.newT (t := 32)
      rintro e v99 ⟨rfl, rfl⟩
      try go_simp
      refine hK.out _ _ ?_ (fun hHeld => ?_)
      · exact hHeld
      clear hK K
      try simp only [zz]
      refine ta 14 8 hHeld ?_
      try simp only [zz]
      refine wpAnyH_done (by kernel_rfl) ?_ _
      go_wp2_with fail
      go_meet
      exact ⟨by rw [HF.out], hHeld⟩
     ·
      go_simp
      refine hK.out _ _ ?_ (fun hHeld => ?_)
      · exact ⟨(hHeld.1).old ((Below.refl _ _).alloc (Nat.le_refl _) _), (hHeld.2.1).old ((Below.refl _ _).alloc (Nat.le_refl _) _), (hHeld.2.2.1).old ((Below.refl _ _).alloc (Nat.le_refl _) _), (hHeld.2.2.2.1).old ((Below.refl _ _).alloc (Nat.le_refl _) _), (hHeld.2.2.2.2).trans ((((Below.refl _ _).alloc (Nat.le_refl _) _)).mono (hHeld.2.2.2.2).size)⟩
      clear hK K
      try simp only [zz]
      refine st2 8 (fun K hK => ?_)
      go_simp
      go_at_call 69
      refine (failed_any zb 6 _).mono ?_
      rintro e v8 ⟨rfl, rfl⟩
      try go_simp
      refine hK.out _ _ ?_ (fun hHeld => ?_)
      · exact hHeld
      clear hK K
      try simp only [zz]
      refine st2 11 (fun K hK => ?_)
      go_simp
      go_at_call 68
      refine (HP4.out _ _ rwAC).mono ?_
      rintro e v11 ⟨rfl, hb11⟩
      try go_simp
      refine hK.out _ _ ?_ (fun hHeld => ?_)
      · exact ⟨(hHeld.1).old hb11, (hHeld.2.1).old hb11, (hHeld.2.2.1).old hb11, (hHeld.2.2.2.1).old hb11, (hHeld.2.2.2.2).trans ((hb11).mono (hHeld.2.2.2.2).size)⟩
      clear hK K
      try simp only [zz]
      refine st2 12 (fun K hK => ?_)
      go_simp
      refine hK.out _ _ ?_ (fun hHeld => ?_)
      · exact ⟨(hHeld.1).old ((Below.refl _ _).alloc (Nat.le_refl _) _), (hHeld.2.1).old ((Below.refl _ _).alloc (Nat.le_refl _) _), (hHeld.2.2.1).old ((Below.refl _ _).alloc (Nat.le_refl _) _), (hHeld.2.2.2.1).old ((Below.refl _ _).alloc (Nat.le_refl _) _), (hHeld.2.2.2.2).trans ((((Below.refl _ _).alloc (Nat.le_refl _) _)).mono (hHeld.2.2.2.2).size)⟩
      clear hK K
      try simp only [zz]
      refine st2 13 (fun K hK => ?_)
      go_simp
      go_at_call 64
      refine (firstV_any _ _ _ [E1, E2, whenI zb 6, E4] _ ?_ rfl (by simp)).mono ?_
      · exact Rd.newT (t := 32)
      rintro e v99 ⟨rfl, rfl⟩
      try go_simp
      refine hK.out _ _ ?_ (fun hHeld => ?_)
      · exact hHeld
      clear hK K
      try simp only [zz]
      refine ta 14 8 hHeld ?_
      try simp only [zz]
      refine wpAnyH_done (by kernel_rfl) ?_ _
      go_wp2_with fail
      go_meet
      exact ⟨by rw [HF.out], hHeld⟩
    ·
     go_simp
     refine hK.out _ _ ?_ (fun hHeld => ?_)
     · exact ⟨(hHeld.1).old ((Below.refl _ _).alloc (Nat.le_refl _) _), (hHeld.2.1).old ((Below.refl _ _).alloc (Nat.le_refl _) _), (hHeld.2.2.1).old ((Below.refl _ _).alloc (Nat.le_refl _) _), (hHeld.2.2.2.1).old ((Below.refl _ _).alloc (Nat.le_refl _) _), (hHeld.2.2.2.2).trans ((((Below.refl _ _).alloc (Nat.le_refl _) _)).mono (hHeld.2.2.2.2).size)⟩
     clear hK K
     try simp only [zz]
     refine st2 4 (fun K hK => ?_)
     go_simp
     go_at_call 68
     refine (HP2.out _ _ rwAC).mono ?_
     rintro e v4 ⟨rfl, hb4⟩
     try go_simp
     refine hK.out _ _ ?_ (fun hHeld => ?_)
     · exact ⟨(hHeld.1).old hb4, (hHeld.2.1).old hb4, (hHeld.2.2.1).old hb4, (hHeld.2.2.2.1).old hb4, (hHeld.2.2.2.2).trans ((hb4).mono (hHeld.2.2.2.2).size)⟩
     clear hK K
     try simp only [zz]
     refine st2 8 (fun K hK => ?_)
     go_simp
     go_at_call 69
     refine (failed_any zb 6 _).mono ?_
     rintro e v8 ⟨rfl, rfl⟩
     try go_simp
     refine hK.out _ _ ?_ (fun hHeld => ?_)
     · exact hHeld
     clear hK K
     try simp only [zz]
     refine st2 11 (fun K hK => ?_)
     go_simp
     go_at_call 68
     refine (HP4.out _ _ rwAC).mono ?_
     rintro e v11 ⟨rfl, hb11⟩
     try go_simp
     refine hK.out _ _ ?_ (fun hHeld => ?_)
     · exact ⟨(hHeld.1).old hb11, (hHeld.2.1).old hb11, (hHeld.2.2.1).old hb11, (hHeld.2.2.2.1).old hb11, (hHeld.2.2.2.2).trans ((hb11).mono (hHeld.2.2.2.2).size)⟩
     clear hK K
     try simp only [zz]
     refine st2 12 (fun K hK => ?_)
     go_simp
     refine hK.out _ _ ?_ (fun hHeld => ?_)
     · exact ⟨(hHeld.1).old ((Below.refl _ _).alloc (Nat.le_refl _) _), (hHeld.2.1).old ((Below.refl _ _).alloc (Nat.le_refl _) _), (hHeld.2.2.1).old ((Below.refl _ _).alloc (Nat.le_refl _) _), (hHeld.2.2.2.1).old ((Below.refl _ _).alloc (Nat.le_refl _) _), (hHeld.2.2.2.2).trans ((((Below.refl _ _).alloc (Nat.le_refl _) _)).mono (hHeld.2.2.2.2).size)⟩
     clear hK K
     try simp only [zz]
     refine st2 13 (fun K hK => ?_)
     go_simp
     go_at_call 64
     refine (firstV_any _ _ _ [E1, E2, whenI zb 6, E4] _ ?_ rfl (by simp)).mono ?_
     · exact Rd.newT (t := 32)
     rintro e v99 ⟨rfl, rfl⟩
     try go_simp
     refine hK.out _ _ ?_ (fun hHeld => ?_)
     · exact hHeld
     clear hK K
     try simp only [zz]
     refine ta 14 8 hHeld ?_
     try simp only [zz]
     refine wpAnyH_done (by kernel_rfl) ?_ _
     go_wp2_with fail
     go_meet
     exact ⟨by rw [HF.out], hHeld⟩
   ·
    go_simp
    refine hK.out _ _ ?_ (fun hHeld => ?_)
    · exact ⟨(hHeld.1).old ((Below.refl _ _).alloc (Nat.le_refl _) _), (hHeld.2.1).old ((Below.refl _ _).alloc (Nat.le_refl _) _), (hHeld.2.2.1).old ((Below.refl _ _).alloc (Nat.le_refl _) _), (hHeld.2.2.2.1).old ((Below.refl _ _).alloc (Nat.le_refl _) _), (hHeld.2.2.2.2).trans ((((Below.refl _ _).alloc (Nat.le_refl _) _)).mono (hHeld.2.2.2.2).size)⟩
    clear hK K
    try simp only [zz]
    refine st2 1 (fun K hK => ?_)
    go_simp
    go_at_call 44
    refine (HC.out _).mono ?_
    rintro e v1 ⟨rfl, hb1⟩
    try go_simp
    refine hK.out _ _ ?_ (fun hHeld => ?_)
    · exact ⟨(hHeld.1).old hb1, (hHeld.2.1).old hb1, (hHeld.2.2.1).old hb1, (hHeld.2.2.2.1).old hb1, (hHeld.2.2.2.2).trans ((hb1).mono (hHeld.2.2.2.2).size)⟩
    clear hK K
    try simp only [zz]
    refine st2 4 (fun K hK => ?_)
    go_simp
    go_at_call 68
    refine (HP2.out _ _ rwAC).mono ?_
    rintro e v4 ⟨rfl, hb4⟩
    try go_simp
    refine hK.out _ _ ?_ (fun hHeld => ?_)
    · exact ⟨(hHeld.1).old hb4, (hHeld.2.1).old hb4, (hHeld.2.2.1).old hb4, (hHeld.2.2.2.1).old hb4, (hHeld.2.2.2.2).trans ((hb4).mono (hHeld.2.2.2.2).size)⟩
    clear hK K
    try simp only [zz]
    refine st2 8 (fun K hK => ?_)
    go_simp
    go_at_call 69
    refine (failed_any zb 6 _).mono ?_
    rintro e v8 ⟨rfl, rfl⟩
    try go_simp
    refine hK.out _ _ ?_ (fun hHeld => ?_)
    · exact hHeld
    clear hK K
    try simp only [zz]
    refine st2 11 (fun K hK => ?_)
    go_simp
    go_at_call 68
    refine (HP4.out _ _ rwAC).mono ?_
    rintro e v11 ⟨rfl, hb11⟩
    try go_simp
    refine hK.out _ _ ?_ (fun hHeld => ?_)
    · exact ⟨(hHeld.1).old hb11, (hHeld.2.1).old hb11, (hHeld.2.2.1).old hb11, (hHeld.2.2.2.1).old hb11, (hHeld.2.2.2.2).trans ((hb11).mono (hHeld.2.2.2.2).size)⟩
    clear hK K
    try simp only [zz]
    refine st2 12 (fun K hK => ?_)
    go_simp
    refine hK.out _ _ ?_ (fun hHeld => ?_)
    · exact ⟨(hHeld.1).old ((Below.refl _ _).alloc (Nat.le_refl _) _), (hHeld.2.1).old ((Below.refl _ _).alloc (Nat.le_refl _) _), (hHeld.2.2.1).old ((Below.refl _ _).alloc (Nat.le_refl _) _), (hHeld.2.2.2.1).old ((Below.refl _ _).alloc (Nat.le_refl _) _), (hHeld.2.2.2.2).trans ((((Below.refl _ _).alloc (Nat.le_refl _) _)).mono (hHeld.2.2.2.2).size)⟩
    clear hK K
    try simp only [zz]
    refine st2 13 (fun K hK => ?_)
    go_simp
    go_at_call 64
    refine (firstV_any _ _ _ [E1, E2, whenI zb 6, E4] _ ?_ rfl (by simp)).mono ?_
    · exact Rd.newT (t := 32)
    rintro e v99 ⟨rfl, rfl⟩
    try go_simp
    refine hK.out _ _ ?_ (fun hHeld => ?_)
    · exact hHeld
    clear hK K
    try simp only [zz]
    refine ta 14 8 hHeld ?_
    try simp only [zz]
    refine wpAnyH_done (by kernel_rfl) ?_ _
    go_wp2_with fail
    go_meet
    exact ⟨by rw [HF.out], hHeld⟩
  ·
   go_simp
   refine hK.out _ _ ?_ (fun hHeld => ?_)
   · exact ⟨(hHeld.1).old ((Below.refl _ _).alloc (Nat.le_refl _) _), (hHeld.2.1).old ((Below.refl _ _).alloc (Nat.le_refl _) _), (hHeld.2.2.1).old ((Below.refl _ _).alloc (Nat.le_refl _) _), (hHeld.2.2.2.1).old ((Below.refl _ _).alloc (Nat.le_refl _) _), (hHeld.2.2.2.2).trans ((((Below.refl _ _).alloc (Nat.le_refl _) _)).mono (hHeld.2.2.2.2).size)⟩
   clear hK K
   try simp only [zz]
   refine st3 1 3 (fun K hK => ?_) (fun K hK => ?_)
   ·
    go_simp
    go_at_call 44
    refine (HC.out _).mono ?_
    rintro e v1 ⟨rfl, hb1⟩
    try go_simp
    refine hK.out _ _ ?_ (fun hHeld => ?_)
    · exact ⟨(hHeld.1).old hb1, (hHeld.2.1).old hb1, (hHeld.2.2.1).old hb1, (hHeld.2.2.2.1).old hb1, (hHeld.2.2.2.2).trans ((hb1).mono (hHeld.2.2.2.2).size)⟩
    clear hK K
    try simp only [zz]
    refine st2 3 (fun K hK => ?_)
    go_simp
    refine hK.out _ _ ?_ (fun hHeld => ?_)
    · exact ⟨(hHeld.1).old ((Below.refl _ _).alloc (Nat.le_refl _) _), (hHeld.2.1).old ((Below.refl _ _).alloc (Nat.le_refl _) _), (hHeld.2.2.1).old ((Below.refl _ _).alloc (Nat.le_refl _) _), (hHeld.2.2.2.1).old ((Below.refl _ _).alloc (Nat.le_refl _) _), (hHeld.2.2.2.2).trans ((((Below.refl _ _).alloc (Nat.le_refl _) _)).mono (hHeld.2.2.2.2).size)⟩
    clear hK K
    try simp only [zz]
    refine st2 4 (fun K hK => ?_)
    go_simp
    go_at_call 68
    refine (HP2.out _ _ rwAC).mono ?_
    rintro e v4 ⟨rfl, hb4⟩
    try go_simp
    refine hK.out _ _ ?_ (fun hHeld => ?_)
    · exact ⟨(hHeld.1).old hb4, (hHeld.2.1).old hb4, (hHeld.2.2.1).old hb4, (hHeld.2.2.2.1).old hb4, (hHeld.2.2.2.2).trans ((hb4).mono (hHeld.2.2.2.2).size)⟩
    clear hK K
    try simp only [zz]
    refine st2 8 (fun K hK => ?_)
    go_simp
    go_at_call 69
    refine (failed_any zb 6 _).mono ?_
    rintro e v8 ⟨rfl, rfl⟩
    try go_simp
    refine hK.out _ _ ?_ (fun hHeld => ?_)
    · exact hHeld
    clear hK K
    try simp only [zz]
    refine st2 11 (fun K hK => ?_)
    go_simp
    go_at_call 68
    refine (HP4.out _ _ rwAC).mono ?_
    rintro e v11 ⟨rfl, hb11⟩
    try go_simp
    refine hK.out _ _ ?_ (fun hHeld => ?_)
    · exact ⟨(hHeld.1).old hb11, (hHeld.2.1).old hb11, (hHeld.2.2.1).old hb11, (hHeld.2.2.2.1).old hb11, (hHeld.2.2.2.2).trans ((hb11).mono (hHeld.2.2.2.2).size)⟩
    clear hK K
    try simp only [zz]
    refine st2 12 (fun K hK => ?_)
    go_simp
    refine hK.out _ _ ?_ (fun hHeld => ?_)
    · exact ⟨(hHeld.1).old ((Below.refl _ _).alloc (Nat.le_refl _) _), (hHeld.2.1).old ((Below.refl _ _).alloc (Nat.le_refl _) _), (hHeld.2.2.1).old ((Below.refl _ _).alloc (Nat.le_refl _) _), (hHeld.2.2.2.1).old ((Below.refl _ _).alloc (Nat.le_refl _) _), (hHeld.2.2.2.2).trans ((((Below.refl _ _).alloc (Nat.le_refl _) _)).mono (hHeld.2.2.2.2).size)⟩
    clear hK K
    try simp only [zz]
    refine st2 13 (fun K hK => ?_)
    go_simp
    go_at_call 64
    refine (firstV_any _ _ _ [E1, E2, whenI zb 6, E4] _ ?_ rfl (by simp)).mono ?_
    · exact Rd.newT (t := 32)
    rintro e v99 ⟨rfl, rfl⟩
    try go_simp
    refine hK.out _ _ ?_ (fun hHeld => ?_)
    · exact hHeld
    clear hK K
    try simp only [zz]
    refine ta 14 8 hHeld ?_
    try simp only [zz]
    refine wpAnyH_done (by kernel_rfl) ?_ _
    go_wp2_with fail
    go_meet
    exact ⟨by rw [HF.out], hHeld⟩
   ·
    go_simp
    refine hK.out _ _ ?_ (fun hHeld => ?_)
    · exact ⟨(hHeld.1).old ((Below.refl _ _).alloc (Nat.le_refl _) _), (hHeld.2.1).old ((Below.refl _ _).alloc (Nat.le_refl _) _), (hHeld.2.2.1).old ((Below.refl _ _).alloc (Nat.le_refl _) _), (hHeld.2.2.2.1).old ((Below.refl _ _).alloc (Nat.le_refl _) _), (hHeld.2.2.2.2).trans ((((Below.refl _ _).alloc (Nat.le_refl _) _)).mono (hHeld.2.2.2.2).size)⟩
    clear hK K
    try simp only [zz]
    refine st2 1 (fun K hK => ?_)
    go_simp
    go_at_call 44
    refine (HC.out _).mono ?_
    rintro e v1 ⟨rfl, hb1⟩
    try go_simp
    refine hK.out _ _ ?_ (fun hHeld => ?_)
    · exact ⟨(hHeld.1).old hb1, (hHeld.2.1).old hb1, (hHeld.2.2.1).old hb1, (hHeld.2.2.2.1).old hb1, (hHeld.2.2.2.2).trans ((hb1).mono (hHeld.2.2.2.2).size)⟩
    clear hK K
    try simp only [zz]
    refine st2 4 (fun K hK => ?_)
    go_simp
    go_at_call 68
    refine (HP2.out _ _ rwAC).mono ?_
    rintro e v4 ⟨rfl, hb4⟩
    try go_simp
    refine hK.out _ _ ?_ (fun hHeld => ?_)
    · exact ⟨(hHeld.1).old hb4, (hHeld.2.1).old hb4, (hHeld.2.2.1).old hb4, (hHeld.2.2.2.1).old hb4, (hHeld.2.2.2.2).trans ((hb4).mono (hHeld.2.2.2.2).size)⟩
    clear hK K
    try simp only [zz]
    refine st2 8 (fun K hK => ?_)
    go_simp
    go_at_call 69
    refine (failed_any zb 6 _).mono ?_
    rintro e v8 ⟨rfl, rfl⟩
    try go_simp
    refine hK.out _ _ ?_ (fun hHeld => ?_)
    · exact hHeld
    clear hK K
    try simp only [zz]
    refine st2 11 (fun K hK => ?_)
    go_simp
    go_at_call 68
    refine (HP4.out _ _ rwAC).mono ?_
    rintro e v11 ⟨rfl, hb11⟩
    try go_simp
    refine hK.out _ _ ?_ (fun hHeld => ?_)
    · exact ⟨(hHeld.1).old hb11, (hHeld.2.1).old hb11, (hHeld.2.2.1).old hb11, (hHeld.2.2.2.1).old hb11, (hHeld.2.2.2.2).trans ((hb11).mono (hHeld.2.2.2.2).size)⟩
    clear hK K
    try simp only [zz]
    refine st2 12 (fun K hK => ?_)
    go_simp
    refine hK.out _ _ ?_ (fun hHeld => ?_)
    · exact ⟨(hHeld.1).old ((Below.refl _ _).alloc (Nat.le_refl _) _), (hHeld.2.1).old ((Below.refl _ _).alloc (Nat.le_refl _) _), (hHeld.2.2.1).old ((Below.refl _ _).alloc (Nat.le_refl _) _), (hHeld.2.2.2.1).old ((Below.refl _ _).alloc (Nat.le_refl _) _), (hHeld.2.2.2.2).trans ((((Below.refl _ _).alloc (Nat.le_refl _) _)).mono (hHeld.2.2.2.2).size)⟩
    clear hK K
    try simp only [zz]
    refine st2 13 (fun K hK => ?_)
    go_simp
    go_at_call 64
    refine (firstV_any _ _ _ [E1, E2, whenI zb 6, E4] _ ?_ rfl (by simp)).mono ?_
    · exact Rd.newT (t := 32)
    rintro e v99 ⟨rfl, rfl⟩
    try go_simp
    refine hK.out _ _ ?_ (fun hHeld => ?_)
    · exact hHeld
    clear hK K
    try simp only [zz]
    refine ta 14 8 hHeld ?_
    try simp only [zz]
    refine wpAnyH_done (by kernel_rfl) ?_ _
    go_wp2_with fail
    go_meet
    exact ⟨by rw [HF.out], hHeld⟩
 case rest =>
 obtain ⟨rfl, hHeld⟩ := hcut
 have HS3 : Hid (Row wc (w.heap.size) 35 [.int .i64 a, .int .i64 b, .int .i64 c, .int .i64 d, .int .i64 x, .int .i64 y] ∧ Row wc (w.heap.size + 1) 23 [.int .i64 k, .int .i64 l] ∧ Row wc (w.heap.size + 1 + 1) 23 [.int .i64 m, .int .i64 n] ∧ Row wc (w.heap.size + 1 + 1 + 1) 35 [.int .i64 0, .int .i64 0, .int .i64 0, .int .i64 0, .int .i64 0, .int .i64 0] ∧ Below w.heap.size w wc) := hHeld
 clear hHeld HS1 HC HP2 HP4 HF hz
 by_cases h0 : E = 0
 · have HM := Lib.hid (HM0.out h0); have HRS := Lib.hid (HR0.out h0)
   have hne : (E == 0) = true := by simpa using h0
   have hne2 : (E != 0) = false := by simpa using h0
   clear HB0 HM0 HR0 h0
   go_wp2_with (first | (refine wpList_load_row rfl 35 _ rfl (w.heap.size) rfl 35 #[.int .i64 a, .int .i64 b, .int .i64 c, .int .i64 d, .int .i64 x, .int .i64 y] (0, 0) _ HS3.out.1 Tryz.underlying35 rfl ?_ ?_; (kernel_rfl)) | (refine wpList_load_row rfl 23 _ rfl (w.heap.size + 1) rfl 23 #[.int .i64 k, .int .i64 l] (0, 0) _ HS3.out.2.1 Tryz.underlying23 rfl ?_ ?_; (kernel_rfl)) | (refine wpList_load_row rfl 23 _ rfl (w.heap.size + 1 + 1) rfl 23 #[.int .i64 m, .int .i64 n] (0, 0) _ HS3.out.2.2.1 Tryz.underlying23 rfl ?_ ?_; (kernel_rfl)) | (go_at_call 66; refine (HM.out _).mono ?_; rintro e w5 ⟨rfl, hb_w5⟩; have HS5 : Hid (Row w5 (w.heap.size) 35 [.int .i64 a, .int .i64 b, .int .i64 c, .int .i64 d, .int .i64 x, .int .i64 y] ∧ Row w5 (w.heap.size + 1) 23 [.int .i64 k, .int .i64 l] ∧ Row w5 (w.heap.size + 1 + 1) 23 [.int .i64 m, .int .i64 n] ∧ Row w5 (w.heap.size + 1 + 1 + 1) 35 [.int .i64 0, .int .i64 0, .int .i64 0, .int .i64 0, .int .i64 0, .int .i64 0] ∧ Below w.heap.size w w5) := ⟨(HS3.out.1).old hb_w5, (HS3.out.2.1).old hb_w5, (HS3.out.2.2.1).old hb_w5, (HS3.out.2.2.2.1).old hb_w5, (HS3.out.2.2.2.2).trans (hb_w5.mono (HS3.out.2.2.2.2).size)⟩; clear hb_w5) | (go_at_call 70; refine (HRS.out _).mono ?_; rintro e w6 ⟨rfl, hb_w6⟩; have HS6 : Hid (Row w6 (w.heap.size) 35 [.int .i64 a, .int .i64 b, .int .i64 c, .int .i64 d, .int .i64 x, .int .i64 y] ∧ Row w6 (w.heap.size + 1) 23 [.int .i64 k, .int .i64 l] ∧ Row w6 (w.heap.size + 1 + 1) 23 [.int .i64 m, .int .i64 n] ∧ Row w6 (w.heap.size + 1 + 1 + 1) 35 [.int .i64 0, .int .i64 0, .int .i64 0, .int .i64 0, .int .i64 0, .int .i64 0] ∧ Below w.heap.size w w6) := ⟨(HS5.out.1).old hb_w6, (HS5.out.2.1).old hb_w6, (HS5.out.2.2.1).old hb_w6, (HS5.out.2.2.2.1).old hb_w6, (HS5.out.2.2.2.2).trans (hb_w6.mono (HS5.out.2.2.2.2).size)⟩; clear hb_w6) | (refine wpList_store_row rfl 35 _ _ rfl (w.heap.size + 1 + 1 + 1) #[.int .i64 r1, .int .i64 r2, .int .i64 r3, .int .i64 r4, .int .i64 r5, .int .i64 r6] rfl rfl 35 _ HS6.out.2.2.2.1 ?_ ?_ ?_ ?_; (kernel_rfl); (rfl); (simp [Value.oneCell'])))
   refine bodyPost_ret (results_rt rfl _ _ (w.heap.size + 1 + 1 + 1) 35 #[.int .i64 r1, .int .i64 r2, .int .i64 r3, .int .i64 r4, .int .i64 r5, .int .i64 r6] (0, 0) _ rfl (HS6.out.2.2.2.1.setRow [.int .i64 r1, .int .i64 r2, .int .i64 r3, .int .i64 r4, .int .i64 r5, .int .i64 r6]) Tryz.underlying35 rfl (by kernel_rfl)) rfl ⟨rfl, Below.setRow HS6.out.2.2.2.2 (by omega) _⟩
 · obtain ⟨rfl, rfl, rfl, rfl, rfl, rfl, rfl⟩ := HB0.out h0
   have hne : (ER == 0) = false := by simpa using h0
   have hne2 : (ER != 0) = true := by simpa using h0
   clear HB0 HM0 HR0 h0
   go_wp2_with (refine wpList_store_row rfl 35 _ _ rfl (w.heap.size + 1 + 1 + 1) #[.int .i64 0, .int .i64 0, .int .i64 0, .int .i64 0, .int .i64 0, .int .i64 0] rfl rfl 35 _ HS3.out.2.2.2.1 ?_ ?_ ?_ ?_; (kernel_rfl); (rfl); (simp [Value.oneCell']))
   refine bodyPost_ret (results_rt rfl _ _ (w.heap.size + 1 + 1 + 1) 35 #[.int .i64 0, .int .i64 0, .int .i64 0, .int .i64 0, .int .i64 0, .int .i64 0] (0, 0) _ rfl (HS3.out.2.2.2.1.setRow [.int .i64 0, .int .i64 0, .int .i64 0, .int .i64 0, .int .i64 0, .int .i64 0]) Tryz.underlying35 rfl (by kernel_rfl)) rfl ⟨rfl, Below.setRow HS3.out.2.2.2.2 (by omega) _⟩
theorem scaled_ok (a b c d x y k l m n : Int) (w : World) (hE : firstI [sigE a b c d x y, firstI ([(k, l)].map (partE 1000)), whenI (k == 0 && l == 0) 6, firstI ([(m, n)].map (partE 1000))] = 0) : Calls Tryz.prog 25 #[.agg #[.int .i64 a, .int .i64 b, .int .i64 c, .int .i64 d, .int .i64 x, .int .i64 y], .agg #[.int .i64 k, .int .i64 l], .agg #[.int .i64 m, .int .i64 n]] w fun e w' => e = .returned (.tuple #[.agg (resV [a * k - b * l, a * l + b * k, c * m - d * n, c * n + d * m, x * m - y * n, x * n + y * m] (bigE (sigE (a * k - b * l) (a * l + b * k) (c * m - d * n) (c * n + d * m) (x * m - y * n) (x * n + y * m)))).toArray, .int .i64 (bigE (sigE (a * k - b * l) (a * l + b * k) (c * m - d * n) (c * n + d * m) (x * m - y * n) (x * n + y * m)))]) ∧ Below w.heap.size w w' := by
 obtain ⟨hs, q1, -, q2⟩ := fI4 hE
 have hg := sig_good hs
 have g4 := part1000 q1
 have g5 := part1000 q2
 have HM := fun W => mulS_any a b c d x y k l m n W hg.g1 hg.g2 hg.g3 g4 g5
 obtain ⟨p1, hp1⟩ : ∃ p, p = a * k - b * l := ⟨_, rfl⟩
 obtain ⟨p2, hp2⟩ : ∃ p, p = a * l + b * k := ⟨_, rfl⟩
 obtain ⟨p3, hp3⟩ : ∃ p, p = c * m - d * n := ⟨_, rfl⟩
 obtain ⟨p4, hp4⟩ : ∃ p, p = c * n + d * m := ⟨_, rfl⟩
 obtain ⟨p5, hp5⟩ : ∃ p, p = x * m - y * n := ⟨_, rfl⟩
 obtain ⟨p6, hp6⟩ : ∃ p, p = x * n + y * m := ⟨_, rfl⟩
 rw [← hp1, ← hp2, ← hp3, ← hp4, ← hp5, ← hp6] at HM
 rw [← hp1, ← hp2, ← hp3, ← hp4, ← hp5, ← hp6]
 obtain ⟨EE, hEE⟩ : ∃ EE, EE = bigE (sigE p1 p2 p3 p4 p5 p6) := ⟨_, rfl⟩
 rw [← hEE]
 obtain ⟨r1, r2, r3, r4, r5, r6, hr⟩ := resV_six p1 p2 p3 p4 p5 p6 EE
 rw [hr]
 have HRS : Hid (∀ W, Calls Tryz.prog 70 #[.agg #[.int .i64 p1, .int .i64 p2, .int .i64 p3, .int .i64 p4, .int .i64 p5, .int .i64 p6]] W fun e w' => e = .returned (.tuple #[.agg #[.int .i64 r1, .int .i64 r2, .int .i64 r3, .int .i64 r4, .int .i64 r5, .int .i64 r6], .int .i64 EE]) ∧ Below W.heap.size W w') := fun W => by have h := result_any p1 p2 p3 p4 p5 p6 W; rw [← hEE, hr] at h; exact h
 exact scaled_walk a b c d x y k l m n 0 EE p1 p2 p3 p4 p5 p6 r1 r2 r3 r4 r5 r6 w hE (fun h => absurd rfl h) (fun _ => HM) (fun _ => HRS.out)

theorem eqG9 (a b c d : Int) (w : World) : (Op.equalIn 9999 23 (.agg #[.int .i64 a, .int .i64 b]) (.agg #[.int .i64 c, .int .i64 d])).run Tryz.prog w = .ok (a == c && b == d) w := by
 have i3 := Tryz.underlying3
 have e1 : ∀ (a b : Int), (part 3 #[.int .i64 a, .int .i64 b] 0).run Tryz.prog w = .ok (.int .i64 a) w := fun a b => part_int _ _ _ rfl w
 have e2 : ∀ (a b : Int), (part 3 #[.int .i64 a, .int .i64 b] 1).run Tryz.prog w = .ok (.int .i64 b) w := fun a b => part_int _ _ _ rfl w
 have e4 := fun (a b : Int) => run_equalIn_int (P := Tryz.prog) w 9997 3 .i64 .i64 a b i3
 have n1 : ("Re" : String) ≠ "_" := by decide
 have n2 : ("Im" : String) ≠ "_" := by decide
 rw [run_eqStruct w 9998 _ _ _ _ (by kernel_rfl) (by kernel_rfl) fieldsG]
 simp only [eqTriples, if_pos n1, if_pos n2, Sem.run_bind, e1, e2, e4, Result.andThen_ok, Sem.run_ite, Sem.run_pure]
 cases a == c <;> cases b == d <;> simp [e1, e2, e4]
def DeS (Aw : World → Prop) (w : World) (L6 : List Value) (W : World) : Prop := Row W w.heap.size 25 L6 ∧ Aw W ∧ Below w.heap.size w W
theorem DeS.keep {Aw : World → Prop} (ho : ∀ W W', Aw W → Below W.heap.size W W' → Aw W') {w W W' : World} {L6 : List Value} (h : DeS Aw w L6 W) (hb : Below W.heap.size W W') : DeS Aw w L6 W' := ⟨h.1.old hb, ho _ _ h.2.1 hb, h.2.2.trans (hb.mono h.2.2.size)⟩

theorem mulB {u v : Int} {A B : Nat} (h : u.natAbs ≤ A) (k : v.natAbs ≤ B) : (u * v).natAbs ≤ A * B := by
 rw [Int.natAbs_mul]; exact Nat.mul_le_mul h k
theorem sig_of {a b c d x y : Int} (ha : a.natAbs ≤ 10000) (hb : b.natAbs ≤ 10000) (hc : c.natAbs ≤ 10000) (hd : d.natAbs ≤ 10000) (hx : x.natAbs ≤ 10000) (hy : y.natAbs ≤ 10000) (hn : ¬ (a = 0 ∧ b = 0)) : sigE a b c d x y = 0 := by
 have r : ∀ {z : Int}, z.natAbs ≤ 10000 → rangeB z (-10000) 10000 = false := fun {z} h => by unfold rangeB; simp only [Bool.or_eq_false_iff, decide_eq_false_iff_not]; omega
 have z : (a == 0 && b == 0) = false := by
  cases h : (a == 0 && b == 0)
  · rfl
  · rw [Bool.and_eq_true, beq_iff_eq, beq_iff_eq] at h; exact absurd h hn
 unfold sigE partE
 simp only [List.map_cons, List.map_nil, r ha, r hb, r hc, r hd, r hx, r hy, z]
 rfl
structure Nr (a b c d x y : Int) : Prop where
 e : sigE a b c d x y = 0
 a : a.natAbs ≤ 300
 b : b.natAbs ≤ 300
 c : c.natAbs ≤ 300
 d : d.natAbs ≤ 300
 x : x.natAbs ≤ 300
 y : y.natAbs ≤ 300
theorem inB_abs {m p : Int} (hm : 0 ≤ m) (h : inB m p = true) : p.natAbs ≤ m.natAbs := by
 unfold inB at h
 simp only [Bool.and_eq_true, Bool.not_eq_true', decide_eq_false_iff_not] at h
 omega
def rotR (a b : Int) : Nat → Int
 | 0 => a
 | 1 => -b
 | 2 => -a
 | 3 => b
 | _ => a
def rotI (a b : Int) : Nat → Int
 | 0 => b
 | 1 => a
 | 2 => -b
 | 3 => -a
 | _ => b
theorem rot_abs {a b : Int} {m : Nat} (ha : a.natAbs ≤ m) (hb : b.natAbs ≤ m) (k : Nat) : (rotR a b k).natAbs ≤ m ∧ (rotI a b k).natAbs ≤ m := by
 match k with
 | 0 => exact ⟨ha, hb⟩
 | 1 => exact ⟨by simpa [rotR] using hb, ha⟩
 | 2 => exact ⟨by simpa [rotR] using ha, by simpa [rotI] using hb⟩
 | 3 => exact ⟨hb, by simpa [rotI] using ha⟩
 | k + 4 => exact ⟨ha, hb⟩
theorem rot_zero {a b : Int} (h : ¬ (a = 0 ∧ b = 0)) (k : Nat) : ¬ (rotR a b k = 0 ∧ rotI a b k = 0) := by
 match k with
 | 0 => exact h
 | 1 => simp only [rotR, rotI]; omega
 | 2 => simp only [rotR, rotI]; omega
 | 3 => simp only [rotR, rotI]; omega
 | k + 4 => exact h
theorem abs_le {z : Int} {m k : Nat} (h : z.natAbs ≤ m) (hk : m ≤ k) : z.natAbs ≤ k := Nat.le_trans h hk
theorem Nr.nz {a b c d x y : Int} (g : Nr a b c d x y) : ¬ (a = 0 ∧ b = 0) := (sig_good g.e).pn
theorem Nr.q {a b c d x y : Int} (g : Nr a b c d x y) : 0 < a * a + b * b ∧ a * a + b * b ≤ 180000 := by
 have h := sq_pos g.nz; have h1 := mulB g.a g.a; have h2 := mulB g.b g.b
 omega
theorem Nr.l {a b c d x y : Int} (g : Nr a b c d x y) : (c * a + d * b).natAbs ≤ 180000 := by
 have h1 := mulB g.c g.a; have h2 := mulB g.d g.b
 omega
theorem Nr.h {a b c d x y : Int} (g : Nr a b c d x y) : (x * a + y * b).natAbs ≤ 180000 := by
 have h1 := mulB g.x g.a; have h2 := mulB g.y g.b
 omega
theorem Nr.ex {a b c d x y : Int} (g : Nr a b c d x y) : sigE a b x y c d = 0 := by
 obtain ⟨-, ha, hb, hc, hd, hx, hy⟩ := id g
 exact sig_of (by omega) (by omega) (by omega) (by omega) (by omega) (by omega) g.nz
theorem Nr.et {a b c d x y : Int} (g : Nr a b c d x y) (k : Nat) : sigE (rotR a b k) (rotI a b k) (rotR c d k) (rotI c d k) (rotR x y k) (rotI x y k) = 0 :=
 sig_of (abs_le (rot_abs g.a g.b k).1 (by decide)) (abs_le (rot_abs g.a g.b k).2 (by decide)) (abs_le (rot_abs g.c g.d k).1 (by decide)) (abs_le (rot_abs g.c g.d k).2 (by decide)) (abs_le (rot_abs g.x g.y k).1 (by decide)) (abs_le (rot_abs g.x g.y k).2 (by decide)) (rot_zero g.nz k)
end Go.Proofs.YtaknlhepgeiekaaGreatDoor
