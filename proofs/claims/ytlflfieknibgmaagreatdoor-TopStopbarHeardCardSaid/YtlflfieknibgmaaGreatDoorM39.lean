import Derived.Test.YtlflfieknibgmaaGreatDoorM14
namespace Go.Proofs.YtlflfieknibgmaaGreatDoor
set_option linter.all false
open Go.RowKit Go.Fl
theorem fI4 {a b c d : Int} (h : firstI [a, b, c, d] = 0) : a = 0 ∧ b = 0 ∧ c = 0 ∧ d = 0 := by
  by_cases ha : a = 0
  · subst ha
    exact ⟨rfl, fI3 h⟩
  · rw [firstI, if_neg ha] at h; exact absurd h ha
theorem part1000 {k l : Int} (h : firstI ([(k, l)].map (partE 1000)) = 0) : Gs k l := by
  have h2 : partE 1000 (k, l) = 0 := by
    by_cases h3 : partE 1000 (k, l) = 0
    · exact h3
    · rw [List.map_cons, List.map_nil, firstI, if_neg h3] at h; exact absurd h h3
  have h4 := part_good h2
  exact ⟨by have := h4.1; omega, by have := h4.2; omega⟩
set_option maxRecDepth 100000 in
set_option maxHeartbeats 1000000 in
theorem added_ok (a b c d x y k l m n u v : Int) (w : World) (hE : firstI [sigE a b c d x y, sigE k l m n u v] = 0) : Calls Tryz.prog 9 #[.agg #[.int .i64 a, .int .i64 b, .int .i64 c, .int .i64 d, .int .i64 x, .int .i64 y], .agg #[.int .i64 k, .int .i64 l, .int .i64 m, .int .i64 n, .int .i64 u, .int .i64 v]] w fun e w' => e = .returned (.tuple #[.agg (resV [a + k, b + l, c + m, d + n, x + u, y + v] (bigE (sigE (a + k) (b + l) (c + m) (d + n) (x + u) (y + v)))).toArray, .int .i64 (bigE (sigE (a + k) (b + l) (c + m) (d + n) (x + u) (y + v)))]) ∧ Below w.heap.size w w' := by
  obtain ⟨hs, hk⟩ := fI2 hE
  have hg := sig_good hs
  have hk := sig_good hk
  obtain ⟨E, hE0, hE⟩ : ∃ E : Int, E = 0 ∧ firstI [sigE a b c d x y, sigE k l m n u v] = E := ⟨0, rfl, hE⟩
  obtain ⟨E1, hE1⟩ : ∃ E1, E1 = sigE a b c d x y := ⟨_, rfl⟩
  obtain ⟨E2, hE2⟩ : ∃ E2, E2 = sigE k l m n u v := ⟨_, rfl⟩
  rw [← hE1, ← hE2] at hE
  have HF : Hid (firstI [E1, E2] = E) := hE
  have HC1 : Hid (∀ W, Calls Tryz.prog 38 #[.agg #[.int .i64 a, .int .i64 b, .int .i64 c, .int .i64 d, .int .i64 x, .int .i64 y]] W fun e w' => e = .returned (.int .i64 E1) ∧ Below W.heap.size W w') := fun W => by rw [hE1]; exact checkSignal_any a b c d x y W
  have HC2 : Hid (∀ W, Calls Tryz.prog 38 #[.agg #[.int .i64 k, .int .i64 l, .int .i64 m, .int .i64 n, .int .i64 u, .int .i64 v]] W fun e w' => e = .returned (.int .i64 E2) ∧ Below W.heap.size W w') := fun W => by rw [hE2]; exact checkSignal_any k l m n u v W
  obtain ⟨p1, hp1⟩ : ∃ p, p = a + k := ⟨_, rfl⟩
  obtain ⟨p2, hp2⟩ : ∃ p, p = b + l := ⟨_, rfl⟩
  obtain ⟨p3, hp3⟩ : ∃ p, p = c + m := ⟨_, rfl⟩
  obtain ⟨p4, hp4⟩ : ∃ p, p = d + n := ⟨_, rfl⟩
  obtain ⟨p5, hp5⟩ : ∃ p, p = x + u := ⟨_, rfl⟩
  obtain ⟨p6, hp6⟩ : ∃ p, p = y + v := ⟨_, rfl⟩
  have HP1 : Hid (∀ W, Calls Tryz.prog 43 #[.agg #[.int .i64 a, .int .i64 b], .agg #[.int .i64 k, .int .i64 l]] W fun e w' => e = .returned (.agg #[.int .i64 p1, .int .i64 p2]) ∧ Below W.heap.size W w') := fun W => by rw [hp1, hp2]; exact plusT_any a b k l W hg.g1 hk.g1
  have HP2 : Hid (∀ W, Calls Tryz.prog 43 #[.agg #[.int .i64 c, .int .i64 d], .agg #[.int .i64 m, .int .i64 n]] W fun e w' => e = .returned (.agg #[.int .i64 p3, .int .i64 p4]) ∧ Below W.heap.size W w') := fun W => by rw [hp3, hp4]; exact plusT_any c d m n W hg.g2 hk.g2
  have HP3 : Hid (∀ W, Calls Tryz.prog 43 #[.agg #[.int .i64 x, .int .i64 y], .agg #[.int .i64 u, .int .i64 v]] W fun e w' => e = .returned (.agg #[.int .i64 p5, .int .i64 p6]) ∧ Below W.heap.size W w') := fun W => by rw [hp5, hp6]; exact plusT_any x y u v W hg.g3 hk.g3
  rw [← hp1, ← hp2, ← hp3, ← hp4, ← hp5, ← hp6]
  obtain ⟨EE, hEE⟩ : ∃ EE, EE = bigE (sigE p1 p2 p3 p4 p5 p6) := ⟨_, rfl⟩
  rw [← hEE]
  obtain ⟨r1, r2, r3, r4, r5, r6, hr⟩ := resV_six p1 p2 p3 p4 p5 p6 EE
  rw [hr]
  have HRS : Hid (∀ W, Calls Tryz.prog 42 #[.agg #[.int .i64 p1, .int .i64 p2, .int .i64 p3, .int .i64 p4, .int .i64 p5, .int .i64 p6]] W fun e w' => e = .returned (.tuple #[.agg #[.int .i64 r1, .int .i64 r2, .int .i64 r3, .int .i64 r4, .int .i64 r5, .int .i64 r6], .int .i64 EE]) ∧ Below W.heap.size W w') := fun W => by have h := result_any p1 p2 p3 p4 p5 p6 W; rw [← hEE, hr] at h; exact h
  subst hE0
  clear hE hE1 hE2 hs hg hk hp1 hp2 hp3 hp4 hp5 hp6 hEE hr
  go_enter Tryz.func9, Tryz.ntmps9
  go_upto_region 1 with fail
  refine genT (fun V => Row V (w.heap.size) 34 [.int .i64 a, .int .i64 b, .int .i64 c, .int .i64 d, .int .i64 x, .int .i64 y] ∧ Row V (w.heap.size + 1) 34 [.int .i64 k, .int .i64 l, .int .i64 m, .int .i64 n, .int .i64 u, .int .i64 v] ∧ Row V (w.heap.size + 1 + 1) 34 [.int .i64 0, .int .i64 0, .int .i64 0, .int .i64 0, .int .i64 0, .int .i64 0] ∧ Below w.heap.size w V) ⟨(Row.alloc (Row.alloc (rowAt _ _ (by first | rfl | simp only [World.size_alloc])) _) _), (Row.alloc (rowAt _ _ (by first | rfl | simp only [World.size_alloc])) _), (rowAt _ _ (by first | rfl | simp only [World.size_alloc])), ((((Below.refl _ _).alloc (by first | exact Nat.le_refl _ | (simp only [World.size_alloc]; omega)) _).alloc (by first | exact Nat.le_refl _ | (simp only [World.size_alloc]; omega)) _).alloc (by first | exact Nat.le_refl _ | (simp only [World.size_alloc]; omega)) _)⟩ ?_
  intro W1 s1
  have HS1 := Lib.hid s1
  clear s1
  refine wp_region_held_drew (S := fun V => Row V (w.heap.size) 34 [.int .i64 a, .int .i64 b, .int .i64 c, .int .i64 d, .int .i64 x, .int .i64 y] ∧ Row V (w.heap.size + 1) 34 [.int .i64 k, .int .i64 l, .int .i64 m, .int .i64 n, .int .i64 u, .int .i64 v] ∧ Row V (w.heap.size + 1 + 1) 34 [.int .i64 0, .int .i64 0, .int .i64 0, .int .i64 0, .int .i64 0, .int .i64 0] ∧ Below w.heap.size w V) (by kernel_rfl) ?_ (fun hHeld => ?_)
  · exact ⟨(HS1.out.1).drew, (HS1.out.2.1).drew, (HS1.out.2.2.1).drew, (HS1.out.2.2.2).drew⟩
  refine wpAnyH_take (i := 0) (oi := ⟨some 7, _, _, _, _, _⟩) (v := .agg #[.int .i64 a, .int .i64 b, .int .i64 c, .int .i64 d, .int .i64 x, .int .i64 y]) rfl (by kernel_rfl) (by kernel_rfl) (by kernel_rfl) (fun _ _ _ h => h) (Or.inl ⟨by kernel_rfl, fun V hV => ex_rowT 34 _ rfl (w.heap.size) rfl 34 [.int .i64 a, .int .i64 b, .int .i64 c, .int .i64 d, .int .i64 x, .int .i64 y] _ Tryz.underlying34 rfl (by kernel_rfl) (hV.1)⟩) hHeld ?_
  try simp only [Act.put, List.setIfInBounds_toArray, List.set_cons_zero, List.set_cons_succ]
  refine wpAnyH_take (i := 2) (oi := ⟨some 9, _, _, _, _, _⟩) (v := .agg #[.int .i64 k, .int .i64 l, .int .i64 m, .int .i64 n, .int .i64 u, .int .i64 v]) rfl (by kernel_rfl) (by kernel_rfl) (by kernel_rfl) (fun _ _ _ h => h) (Or.inl ⟨by kernel_rfl, fun V hV => ex_rowT 34 _ rfl (w.heap.size + 1) rfl 34 [.int .i64 k, .int .i64 l, .int .i64 m, .int .i64 n, .int .i64 u, .int .i64 v] _ Tryz.underlying34 rfl (by kernel_rfl) (hV.2.1)⟩) hHeld ?_
  try simp only [Act.put, List.setIfInBounds_toArray, List.set_cons_zero, List.set_cons_succ]
  refine wpAnyH_ready (rs := [1]) (by kernel_rfl) (by simp) ?_
  refine AllReadyH.cons rfl (fun K hK => ?_) AllReadyH.nil
  go_simp
  go_at_call 38
  refine (HC1.out _).mono ?_
  rintro e v1 ⟨rfl, hb1⟩
  try go_simp
  refine hK.out _ _ ?_ (fun hHeld => ?_)
  · exact ⟨(hHeld.1).old hb1, (hHeld.2.1).old hb1, (hHeld.2.2.1).old hb1, (hHeld.2.2.2).trans ((hb1).mono (hHeld.2.2.2).size)⟩
  clear hK K
  try simp only [Act.put, List.setIfInBounds_toArray, List.set_cons_zero, List.set_cons_succ]
  refine wpAnyH_ready (rs := [3]) (by kernel_rfl) (by simp) ?_
  refine AllReadyH.cons rfl (fun K hK => ?_) AllReadyH.nil
  go_simp
  go_at_call 38
  refine (HC2.out _).mono ?_
  rintro e v3 ⟨rfl, hb3⟩
  try go_simp
  refine hK.out _ _ ?_ (fun hHeld => ?_)
  · exact ⟨(hHeld.1).old hb3, (hHeld.2.1).old hb3, (hHeld.2.2.1).old hb3, (hHeld.2.2.2).trans ((hb3).mono (hHeld.2.2.2).size)⟩
  clear hK K
  try simp only [Act.put, List.setIfInBounds_toArray, List.set_cons_zero, List.set_cons_succ]
  refine wpAnyH_ready (rs := [4]) (by kernel_rfl) (by simp) ?_
  refine AllReadyH.cons rfl (fun K hK => ?_) AllReadyH.nil
  go_simp
  refine hK.out _ _ ?_ (fun hHeld => ?_)
  · exact ⟨(hHeld.1).old ((Below.refl _ _).alloc (Nat.le_refl _) _), (hHeld.2.1).old ((Below.refl _ _).alloc (Nat.le_refl _) _), (hHeld.2.2.1).old ((Below.refl _ _).alloc (Nat.le_refl _) _), (hHeld.2.2.2).trans ((((Below.refl _ _).alloc (Nat.le_refl _) _)).mono (hHeld.2.2.2).size)⟩
  clear hK K
  try simp only [Act.put, List.setIfInBounds_toArray, List.set_cons_zero, List.set_cons_succ]
  refine wpAnyH_ready (rs := [5]) (by kernel_rfl) (by simp) ?_
  refine AllReadyH.cons rfl (fun K hK => ?_) AllReadyH.nil
  go_simp
  go_at_call 32
  refine (firstV_any _ _ _ [E1, E2] _ ?_ rfl (by simp)).mono ?_
  · exact Rd.newT (t := 31)
  rintro e v99 ⟨rfl, rfl⟩
  rw [HF.out]
  try go_simp
  refine hK.out _ _ ?_ (fun hHeld => ?_)
  · exact hHeld
  clear hK K
  try simp only [Act.put, List.setIfInBounds_toArray, List.set_cons_zero, List.set_cons_succ]
  refine wpAnyH_take (i := 6) (oi := ⟨some 6, _, _, _, _, _⟩) (v := ?_) rfl (by kernel_rfl) (by kernel_rfl) (by kernel_rfl) (fun _ _ _ h => h) (Or.inl ⟨by kernel_rfl, ?_⟩) hHeld ?_
  rotate_left
  · intro w1 hSw; (try dsimp only at hSw); go_simp <;> with_reducible rfl
  try simp only [Act.put, List.setIfInBounds_toArray, List.set_cons_zero, List.set_cons_succ]
  refine wpAnyH_done (by kernel_rfl) ?_ _
  go_upto_region 4 with fail
  refine genT (fun V => Row V (w.heap.size) 34 [.int .i64 a, .int .i64 b, .int .i64 c, .int .i64 d, .int .i64 x, .int .i64 y] ∧ Row V (w.heap.size + 1) 34 [.int .i64 k, .int .i64 l, .int .i64 m, .int .i64 n, .int .i64 u, .int .i64 v] ∧ RowN V (w.heap.size + 1 + 1) 34 6 ∧ Below w.heap.size w V) ⟨hHeld.1, hHeld.2.1, ⟨_, rfl, hHeld.2.2.1⟩, hHeld.2.2.2⟩ ?_
  clear HS1 HC1 HC2 HF hHeld
  intro W4 s4
  have HS4 := Lib.hid s4
  clear s4
  refine wp_region_held_drew (S := fun V => Row V (w.heap.size) 34 [.int .i64 a, .int .i64 b, .int .i64 c, .int .i64 d, .int .i64 x, .int .i64 y] ∧ Row V (w.heap.size + 1) 34 [.int .i64 k, .int .i64 l, .int .i64 m, .int .i64 n, .int .i64 u, .int .i64 v] ∧ RowN V (w.heap.size + 1 + 1) 34 6 ∧ Below w.heap.size w V) (by kernel_rfl) ?_ (fun hHeld => ?_)
  · exact ⟨(HS4.out.1).drew, (HS4.out.2.1).drew, (HS4.out.2.2.1).drew, (HS4.out.2.2.2).drew⟩
  refine wpAnyH_take (i := 0) (oi := ⟨some 17, _, _, _, _, _⟩) (v := ?_) rfl (by kernel_rfl) (by kernel_rfl) (by kernel_rfl) (fun _ _ _ h => h) (Or.inl ⟨by kernel_rfl, ?_⟩) hHeld ?_
  rotate_left
  · intro w1 hSw; (try dsimp only at hSw); go_simp <;> with_reducible rfl
  try simp only [Act.put, List.setIfInBounds_toArray, List.set_cons_zero, List.set_cons_succ]
  refine wpAnyH_take (i := 1) (oi := ⟨some 18, _, _, _, _, _⟩) (v := .agg #[.int .i64 a, .int .i64 b]) rfl (by kernel_rfl) (by kernel_rfl) (by kernel_rfl) (fun _ _ _ h => h) (Or.inl ⟨by kernel_rfl, fun V hV => ex_Gauss _ rfl (w.heap.size) 0 rfl ((hV.1).cell 0) ((hV.1).cell 1)⟩) hHeld ?_
  try simp only [Act.put, List.setIfInBounds_toArray, List.set_cons_zero, List.set_cons_succ]
  refine wpAnyH_take (i := 2) (oi := ⟨some 19, _, _, _, _, _⟩) (v := ?_) rfl (by kernel_rfl) (by kernel_rfl) (by kernel_rfl) (fun _ _ _ h => h) (Or.inl ⟨by kernel_rfl, ?_⟩) hHeld ?_
  rotate_left
  · intro w1 hSw; (try dsimp only at hSw); go_simp <;> with_reducible rfl
  try simp only [Act.put, List.setIfInBounds_toArray, List.set_cons_zero, List.set_cons_succ]
  refine wpAnyH_take (i := 3) (oi := ⟨some 20, _, _, _, _, _⟩) (v := .agg #[.int .i64 k, .int .i64 l]) rfl (by kernel_rfl) (by kernel_rfl) (by kernel_rfl) (fun _ _ _ h => h) (Or.inl ⟨by kernel_rfl, fun V hV => ex_Gauss _ rfl (w.heap.size + 1) 0 rfl ((hV.2.1).cell 0) ((hV.2.1).cell 1)⟩) hHeld ?_
  try simp only [Act.put, List.setIfInBounds_toArray, List.set_cons_zero, List.set_cons_succ]
  refine wpAnyH_take (i := 5) (oi := ⟨some 22, _, _, _, _, _⟩) (v := ?_) rfl (by kernel_rfl) (by kernel_rfl) (by kernel_rfl) (fun _ _ _ h => h) (Or.inl ⟨by kernel_rfl, ?_⟩) hHeld ?_
  rotate_left
  · intro w1 hSw; (try dsimp only at hSw); go_simp <;> with_reducible rfl
  try simp only [Act.put, List.setIfInBounds_toArray, List.set_cons_zero, List.set_cons_succ]
  refine wpAnyH_take (i := 6) (oi := ⟨some 23, _, _, _, _, _⟩) (v := .agg #[.int .i64 c, .int .i64 d]) rfl (by kernel_rfl) (by kernel_rfl) (by kernel_rfl) (fun _ _ _ h => h) (Or.inl ⟨by kernel_rfl, fun V hV => ex_Gauss _ rfl (w.heap.size) 2 rfl ((hV.1).cell 2) ((hV.1).cell 3)⟩) hHeld ?_
  try simp only [Act.put, List.setIfInBounds_toArray, List.set_cons_zero, List.set_cons_succ]
  refine wpAnyH_take (i := 7) (oi := ⟨some 24, _, _, _, _, _⟩) (v := ?_) rfl (by kernel_rfl) (by kernel_rfl) (by kernel_rfl) (fun _ _ _ h => h) (Or.inl ⟨by kernel_rfl, ?_⟩) hHeld ?_
  rotate_left
  · intro w1 hSw; (try dsimp only at hSw); go_simp <;> with_reducible rfl
  try simp only [Act.put, List.setIfInBounds_toArray, List.set_cons_zero, List.set_cons_succ]
  refine wpAnyH_take (i := 8) (oi := ⟨some 25, _, _, _, _, _⟩) (v := .agg #[.int .i64 m, .int .i64 n]) rfl (by kernel_rfl) (by kernel_rfl) (by kernel_rfl) (fun _ _ _ h => h) (Or.inl ⟨by kernel_rfl, fun V hV => ex_Gauss _ rfl (w.heap.size + 1) 2 rfl ((hV.2.1).cell 2) ((hV.2.1).cell 3)⟩) hHeld ?_
  try simp only [Act.put, List.setIfInBounds_toArray, List.set_cons_zero, List.set_cons_succ]
  refine wpAnyH_take (i := 10) (oi := ⟨some 27, _, _, _, _, _⟩) (v := ?_) rfl (by kernel_rfl) (by kernel_rfl) (by kernel_rfl) (fun _ _ _ h => h) (Or.inl ⟨by kernel_rfl, ?_⟩) hHeld ?_
  rotate_left
  · intro w1 hSw; (try dsimp only at hSw); go_simp <;> with_reducible rfl
  try simp only [Act.put, List.setIfInBounds_toArray, List.set_cons_zero, List.set_cons_succ]
  refine wpAnyH_take (i := 11) (oi := ⟨some 28, _, _, _, _, _⟩) (v := .agg #[.int .i64 x, .int .i64 y]) rfl (by kernel_rfl) (by kernel_rfl) (by kernel_rfl) (fun _ _ _ h => h) (Or.inl ⟨by kernel_rfl, fun V hV => ex_Gauss _ rfl (w.heap.size) 4 rfl ((hV.1).cell 4) ((hV.1).cell 5)⟩) hHeld ?_
  try simp only [Act.put, List.setIfInBounds_toArray, List.set_cons_zero, List.set_cons_succ]
  refine wpAnyH_take (i := 12) (oi := ⟨some 29, _, _, _, _, _⟩) (v := ?_) rfl (by kernel_rfl) (by kernel_rfl) (by kernel_rfl) (fun _ _ _ h => h) (Or.inl ⟨by kernel_rfl, ?_⟩) hHeld ?_
  rotate_left
  · intro w1 hSw; (try dsimp only at hSw); go_simp <;> with_reducible rfl
  try simp only [Act.put, List.setIfInBounds_toArray, List.set_cons_zero, List.set_cons_succ]
  refine wpAnyH_take (i := 13) (oi := ⟨some 30, _, _, _, _, _⟩) (v := .agg #[.int .i64 u, .int .i64 v]) rfl (by kernel_rfl) (by kernel_rfl) (by kernel_rfl) (fun _ _ _ h => h) (Or.inl ⟨by kernel_rfl, fun V hV => ex_Gauss _ rfl (w.heap.size + 1) 4 rfl ((hV.2.1).cell 4) ((hV.2.1).cell 5)⟩) hHeld ?_
  try simp only [Act.put, List.setIfInBounds_toArray, List.set_cons_zero, List.set_cons_succ]
  refine wpAnyH_ready (rs := [4]) (by kernel_rfl) (by simp) ?_
  refine AllReadyH.cons rfl (fun K hK => ?_) AllReadyH.nil
  go_simp
  go_at_call 43
  refine (HP1.out _).mono ?_
  rintro e v4 ⟨rfl, hb4⟩
  try go_simp
  refine hK.out _ _ ?_ (fun hHeld => ?_)
  · exact ⟨(hHeld.1).old hb4, (hHeld.2.1).old hb4, (hHeld.2.2.1).old hb4, (hHeld.2.2.2).trans ((hb4).mono (hHeld.2.2.2).size)⟩
  clear hK K
  try simp only [Act.put, List.setIfInBounds_toArray, List.set_cons_zero, List.set_cons_succ]
  refine wpAnyH_ready (rs := [9]) (by kernel_rfl) (by simp) ?_
  refine AllReadyH.cons rfl (fun K hK => ?_) AllReadyH.nil
  go_simp
  go_at_call 43
  refine (HP2.out _).mono ?_
  rintro e v9 ⟨rfl, hb9⟩
  try go_simp
  refine hK.out _ _ ?_ (fun hHeld => ?_)
  · exact ⟨(hHeld.1).old hb9, (hHeld.2.1).old hb9, (hHeld.2.2.1).old hb9, (hHeld.2.2.2).trans ((hb9).mono (hHeld.2.2.2).size)⟩
  clear hK K
  try simp only [Act.put, List.setIfInBounds_toArray, List.set_cons_zero, List.set_cons_succ]
  refine wpAnyH_ready (rs := [14]) (by kernel_rfl) (by simp) ?_
  refine AllReadyH.cons rfl (fun K hK => ?_) AllReadyH.nil
  go_simp
  go_at_call 43
  refine (HP3.out _).mono ?_
  rintro e v14 ⟨rfl, hb14⟩
  try go_simp
  refine hK.out _ _ ?_ (fun hHeld => ?_)
  · exact ⟨(hHeld.1).old hb14, (hHeld.2.1).old hb14, (hHeld.2.2.1).old hb14, (hHeld.2.2.2).trans ((hb14).mono (hHeld.2.2.2).size)⟩
  clear hK K
  try simp only [Act.put, List.setIfInBounds_toArray, List.set_cons_zero, List.set_cons_succ]
  refine wpAnyH_take (i := 15) (oi := ⟨some 32, _, _, _, _, _⟩) (v := ?_) rfl (by kernel_rfl) (by kernel_rfl) (by kernel_rfl) (fun _ _ _ h => h) (Or.inl ⟨by kernel_rfl, ?_⟩) hHeld ?_
  rotate_left
  · intro w1 hSw; (try dsimp only at hSw); go_simp <;> with_reducible rfl
  try simp only [Act.put, List.setIfInBounds_toArray, List.set_cons_zero, List.set_cons_succ]
  refine wpAnyH_ready (rs := [16]) (by kernel_rfl) (by simp) ?_
  refine AllReadyH.cons rfl (fun K hK => ?_) AllReadyH.nil
  go_simp
  go_at_call 42
  refine (HRS.out _).mono ?_
  rintro e v16 ⟨rfl, hb16⟩
  try go_simp
  refine hK.out _ _ ?_ (fun hHeld => ?_)
  · exact ⟨(hHeld.1).old hb16, (hHeld.2.1).old hb16, (hHeld.2.2.1).old hb16, (hHeld.2.2.2).trans ((hb16).mono (hHeld.2.2.2).size)⟩
  clear hK K
  try simp only [Act.put, List.setIfInBounds_toArray, List.set_cons_zero, List.set_cons_succ]
  refine wpAnyH_take (i := 17) (oi := ⟨some 34, _, _, _, _, _⟩) (v := ?_) rfl (by kernel_rfl) (by kernel_rfl) (by kernel_rfl) (fun _ _ _ h => h) (Or.inl ⟨by kernel_rfl, ?_⟩) hHeld ?_
  rotate_left
  · intro w1 hSw; (try dsimp only at hSw); go_simp <;> with_reducible rfl
  try simp only [Act.put, List.setIfInBounds_toArray, List.set_cons_zero, List.set_cons_succ]
  refine wpAnyH_take (i := 18) (oi := ⟨some 35, _, _, _, _, _⟩) (v := ?_) rfl (by kernel_rfl) (by kernel_rfl) (by kernel_rfl) (fun _ _ _ h => h) (Or.inl ⟨by kernel_rfl, ?_⟩) hHeld ?_
  rotate_left
  · intro w1 hSw; (try dsimp only at hSw); go_simp <;> with_reducible rfl
  try simp only [Act.put, List.setIfInBounds_toArray, List.set_cons_zero, List.set_cons_succ]
  refine wpAnyH_ready (rs := [19]) (by kernel_rfl) (by simp) ?_
  refine AllReadyH.cons rfl (fun K hK => ?_) AllReadyH.nil
  obtain ⟨vs, hvl, hvr⟩ := (hHeld.2.2.1)
  have hLast := hHeld
  refine step_store_row rfl 34 _ _ rfl (w.heap.size + 1 + 1) [.int .i64 r1, .int .i64 r2, .int .i64 r3, .int .i64 r4, .int .i64 r5, .int .i64 r6] rfl rfl 34 vs hvr (by kernel_rfl) hvl (by simp [Value.oneCell']) ?_
  refine hK.out _ _ ?_ (fun hHeld => ?_)
  · exact ⟨(hHeld.1).farRow (by omega) _, (hHeld.2.1).farRow (by omega) _, ⟨_, rfl, hvr.setRow _⟩, Below.setRow (hHeld.2.2.2) (by omega) _⟩
  clear hK K
  try simp only [Act.put, List.setIfInBounds_toArray, List.set_cons_zero, List.set_cons_succ]
  refine wpAnyH_take (i := 20) (oi := ⟨some 5, _, _, _, _, _⟩) (v := ?_) rfl (by kernel_rfl) (by kernel_rfl) (by kernel_rfl) (fun _ _ _ h => h) (Or.inl ⟨by kernel_rfl, ?_⟩) hHeld ?_
  rotate_left
  · intro w1 hSw; (try dsimp only at hSw); go_simp <;> with_reducible rfl
  try simp only [Act.put, List.setIfInBounds_toArray, List.set_cons_zero, List.set_cons_succ]
  refine wpAnyH_done (by kernel_rfl) ?_ _
  go_wp2_with fail
  refine bodyPost_ret (results_rt rfl _ _ (w.heap.size + 1 + 1) 34 #[.int .i64 r1, .int .i64 r2, .int .i64 r3, .int .i64 r4, .int .i64 r5, .int .i64 r6] (0, 0) _ rfl (hvr.setRow [.int .i64 r1, .int .i64 r2, .int .i64 r3, .int .i64 r4, .int .i64 r5, .int .i64 r6]) Tryz.underlying34 rfl (by kernel_rfl)) rfl ⟨rfl, Below.setRow hLast.2.2.2 (by omega) _⟩
set_option maxRecDepth 100000 in
set_option maxHeartbeats 16000000 in
theorem scaled_walk (a b c d x y k l m n E ER p1 p2 p3 p4 p5 p6 r1 r2 r3 r4 r5 r6 : Int) (w : World) (hE : firstI [sigE a b c d x y, firstI ([(k, l)].map (partE 1000)), whenI (k == 0 && l == 0) 6, firstI ([(m, n)].map (partE 1000))] = E) (hb : E ≠ 0 → ER = E ∧ r1 = 0 ∧ r2 = 0 ∧ r3 = 0 ∧ r4 = 0 ∧ r5 = 0 ∧ r6 = 0) (hm : E = 0 → (∀ W, Calls Tryz.prog 40 #[.agg #[.int .i64 a, .int .i64 b, .int .i64 c, .int .i64 d, .int .i64 x, .int .i64 y], .agg #[.int .i64 k, .int .i64 l], .agg #[.int .i64 m, .int .i64 n]] W fun e w' => e = .returned (.agg #[.int .i64 p1, .int .i64 p2, .int .i64 p3, .int .i64 p4, .int .i64 p5, .int .i64 p6]) ∧ Below W.heap.size W w')) (hr : E = 0 → (∀ W, Calls Tryz.prog 42 #[.agg #[.int .i64 p1, .int .i64 p2, .int .i64 p3, .int .i64 p4, .int .i64 p5, .int .i64 p6]] W fun e w' => e = .returned (.tuple #[.agg #[.int .i64 r1, .int .i64 r2, .int .i64 r3, .int .i64 r4, .int .i64 r5, .int .i64 r6], .int .i64 ER]) ∧ Below W.heap.size W w')) : Calls Tryz.prog 10 #[.agg #[.int .i64 a, .int .i64 b, .int .i64 c, .int .i64 d, .int .i64 x, .int .i64 y], .agg #[.int .i64 k, .int .i64 l], .agg #[.int .i64 m, .int .i64 n]] w fun e w' => e = .returned (.tuple #[.agg #[.int .i64 r1, .int .i64 r2, .int .i64 r3, .int .i64 r4, .int .i64 r5, .int .i64 r6], .int .i64 ER]) ∧ Below w.heap.size w w' := by
  obtain ⟨E1, hE1⟩ : ∃ E1, E1 = sigE a b c d x y := ⟨_, rfl⟩
  obtain ⟨E2, hE2⟩ : ∃ E2, E2 = firstI ([(k, l)].map (partE 1000)) := ⟨_, rfl⟩
  obtain ⟨zb, hzb⟩ : ∃ zb, zb = (k == 0 && l == 0) := ⟨_, rfl⟩
  obtain ⟨E4, hE4⟩ : ∃ E4, E4 = firstI ([(m, n)].map (partE 1000)) := ⟨_, rfl⟩
  rw [← hE1, ← hE2, ← hzb, ← hE4] at hE
  have HF : Hid (firstI [E1, E2, whenI zb 6, E4] = E) := hE
  have HC : Hid (∀ W, Calls Tryz.prog 38 #[.agg #[.int .i64 a, .int .i64 b, .int .i64 c, .int .i64 d, .int .i64 x, .int .i64 y]] W fun e w' => e = .returned (.int .i64 E1) ∧ Below W.heap.size W w') := fun W => by rw [hE1]; exact checkSignal_any a b c d x y W
  have HP2 : Hid (∀ W q, Row W q 25 [.int .i64 k, .int .i64 l] → Calls Tryz.prog 44 #[.int .i64 1000, .slice (some ⟨q, 0, none⟩) 1 1] W fun e w' => e = .returned (.int .i64 E2) ∧ Below W.heap.size W w') := fun W q h => by rw [hE2]; exact checkParts_any (some ⟨q, 0, none⟩) 1 1 [(k, l)] 1000 W (Rd.row h) rfl (by decide) (by simp)
  have HP4 : Hid (∀ W q, Row W q 25 [.int .i64 m, .int .i64 n] → Calls Tryz.prog 44 #[.int .i64 1000, .slice (some ⟨q, 0, none⟩) 1 1] W fun e w' => e = .returned (.int .i64 E4) ∧ Below W.heap.size W w') := fun W q h => by rw [hE4]; exact checkParts_any (some ⟨q, 0, none⟩) 1 1 [(m, n)] 1000 W (Rd.row h) rfl (by decide) (by simp)
  have hz : ∀ w, (binOp .eql 25 (.agg #[.int .i64 k, .int .i64 l]) (.agg #[.int .i64 0, .int .i64 0])).run Tryz.prog w = .ok (.bool zb) w := fun w => by rw [hzb]; exact eqlGauss k l 0 0 w
  have HB0 := Lib.hid hb; have HM0 := Lib.hid hm; have HR0 := Lib.hid hr
  clear hE hE1 hE2 hzb hE4 hb hm hr
  go_enter Tryz.func10, Tryz.ntmps10
  go_upto_region 1 with fail
  refine genT (fun V => Row V (w.heap.size) 34 [.int .i64 a, .int .i64 b, .int .i64 c, .int .i64 d, .int .i64 x, .int .i64 y] ∧ Row V (w.heap.size + 1) 25 [.int .i64 k, .int .i64 l] ∧ Row V (w.heap.size + 1 + 1) 25 [.int .i64 m, .int .i64 n] ∧ Row V (w.heap.size + 1 + 1 + 1) 34 [.int .i64 0, .int .i64 0, .int .i64 0, .int .i64 0, .int .i64 0, .int .i64 0] ∧ Below w.heap.size w V) ⟨(Row.alloc (Row.alloc (Row.alloc (rowAt _ _ (by first | rfl | simp only [World.size_alloc])) _) _) _), (Row.alloc (Row.alloc (rowAt _ _ (by first | rfl | simp only [World.size_alloc])) _) _), (Row.alloc (rowAt _ _ (by first | rfl | simp only [World.size_alloc])) _), (rowAt _ _ (by first | rfl | simp only [World.size_alloc])), (((((Below.refl _ _).alloc (by first | exact Nat.le_refl _ | (simp only [World.size_alloc]; omega)) _).alloc (by first | exact Nat.le_refl _ | (simp only [World.size_alloc]; omega)) _).alloc (by first | exact Nat.le_refl _ | (simp only [World.size_alloc]; omega)) _).alloc (by first | exact Nat.le_refl _ | (simp only [World.size_alloc]; omega)) _)⟩ ?_
  intro W1 s1
  have HS1 := Lib.hid s1
  clear s1
  go_upto_region 1 with fail
  go_cut [8] from 9 to 23 (fun s8 wx => s8 = .int .i64 E ∧ Row wx (w.heap.size) 34 [.int .i64 a, .int .i64 b, .int .i64 c, .int .i64 d, .int .i64 x, .int .i64 y] ∧ Row wx (w.heap.size + 1) 25 [.int .i64 k, .int .i64 l] ∧ Row wx (w.heap.size + 1 + 1) 25 [.int .i64 m, .int .i64 n] ∧ Row wx (w.heap.size + 1 + 1 + 1) 34 [.int .i64 0, .int .i64 0, .int .i64 0, .int .i64 0, .int .i64 0, .int .i64 0] ∧ Below w.heap.size w wx)
  case first =>
    clear HB0 HM0 HR0
    refine wp_region_held_drew (S := fun V => Row V (w.heap.size) 34 [.int .i64 a, .int .i64 b, .int .i64 c, .int .i64 d, .int .i64 x, .int .i64 y] ∧ Row V (w.heap.size + 1) 25 [.int .i64 k, .int .i64 l] ∧ Row V (w.heap.size + 1 + 1) 25 [.int .i64 m, .int .i64 n] ∧ Row V (w.heap.size + 1 + 1 + 1) 34 [.int .i64 0, .int .i64 0, .int .i64 0, .int .i64 0, .int .i64 0, .int .i64 0] ∧ Below w.heap.size w V) (by kernel_rfl) ?_ (fun hHeld => ?_)
    · exact ⟨(HS1.out.1).drew, (HS1.out.2.1).drew, (HS1.out.2.2.1).drew, (HS1.out.2.2.2.1).drew, (HS1.out.2.2.2.2).drew⟩
    refine wpAnyH_take (i := 0) (oi := ⟨some 9, _, _, _, _, _⟩) (v := .agg #[.int .i64 a, .int .i64 b, .int .i64 c, .int .i64 d, .int .i64 x, .int .i64 y]) rfl (by kernel_rfl) (by kernel_rfl) (by kernel_rfl) (fun _ _ _ h => h) (Or.inl ⟨by kernel_rfl, fun V hV => ex_rowT 34 _ rfl (w.heap.size) rfl 34 [.int .i64 a, .int .i64 b, .int .i64 c, .int .i64 d, .int .i64 x, .int .i64 y] _ Tryz.underlying34 rfl (by kernel_rfl) (hV.1)⟩) hHeld ?_
    try simp only [Act.put, List.setIfInBounds_toArray, List.set_cons_zero, List.set_cons_succ]
    refine wpAnyH_take (i := 2) (oi := ⟨some 11, _, _, _, _, _⟩) (v := .agg #[.int .i64 k, .int .i64 l]) rfl (by kernel_rfl) (by kernel_rfl) (by kernel_rfl) (fun _ _ _ h => h) (Or.inl ⟨by kernel_rfl, fun V hV => ex_rowT 25 _ rfl (w.heap.size + 1) rfl 25 [.int .i64 k, .int .i64 l] _ Tryz.underlying25 rfl (by kernel_rfl) (hV.2.1)⟩) hHeld ?_
    try simp only [Act.put, List.setIfInBounds_toArray, List.set_cons_zero, List.set_cons_succ]
    refine wpAnyH_take (i := 5) (oi := ⟨some 14, _, _, _, _, _⟩) (v := .agg #[.int .i64 k, .int .i64 l]) rfl (by kernel_rfl) (by kernel_rfl) (by kernel_rfl) (fun _ _ _ h => h) (Or.inl ⟨by kernel_rfl, fun V hV => ex_rowT 25 _ rfl (w.heap.size + 1) rfl 25 [.int .i64 k, .int .i64 l] _ Tryz.underlying25 rfl (by kernel_rfl) (hV.2.1)⟩) hHeld ?_
    try simp only [Act.put, List.setIfInBounds_toArray, List.set_cons_zero, List.set_cons_succ]
    refine wpAnyH_take (i := 6) (oi := ⟨some 15, _, _, _, _, _⟩) (v := ?_) rfl (by kernel_rfl) (by kernel_rfl) (by kernel_rfl) (fun _ _ _ h => h) (Or.inl ⟨by kernel_rfl, ?_⟩) hHeld ?_
    rotate_left
    · intro w1 hSw; (try dsimp only at hSw); go_simp <;> with_reducible rfl
    try simp only [Act.put, List.setIfInBounds_toArray, List.set_cons_zero, List.set_cons_succ]
    refine wpAnyH_take (i := 7) (oi := ⟨some 16, _, _, _, _, _⟩) (v := ?_) rfl (by kernel_rfl) (by kernel_rfl) (by kernel_rfl) (fun _ _ _ h => h) (Or.inl ⟨by kernel_rfl, ?_⟩) hHeld ?_
    rotate_left
    · intro w1 hSw; (try dsimp only at hSw); go_simp <;> with_reducible rfl
    try simp only [Act.put, List.setIfInBounds_toArray, List.set_cons_zero, List.set_cons_succ]
    refine wpAnyH_take (i := 9) (oi := ⟨some 18, _, _, _, _, _⟩) (v := .agg #[.int .i64 m, .int .i64 n]) rfl (by kernel_rfl) (by kernel_rfl) (by kernel_rfl) (fun _ _ _ h => h) (Or.inl ⟨by kernel_rfl, fun V hV => ex_rowT 25 _ rfl (w.heap.size + 1 + 1) rfl 25 [.int .i64 m, .int .i64 n] _ Tryz.underlying25 rfl (by kernel_rfl) (hV.2.2.1)⟩) hHeld ?_
    try simp only [Act.put, List.setIfInBounds_toArray, List.set_cons_zero, List.set_cons_succ]
    refine wpAnyH_ready (rs := [1, 3, 10]) (by kernel_rfl) (by simp) ?_
    refine AllReadyH.cons rfl (fun K hK => ?_) (AllReadyH.cons rfl (fun K hK => ?_) (AllReadyH.cons rfl (fun K hK => ?_) (AllReadyH.nil)))
    ·
      go_simp
      go_at_call 38
      refine (HC.out _).mono ?_
      rintro e v1 ⟨rfl, hb1⟩
      try go_simp
      refine hK.out _ _ ?_ (fun hHeld => ?_)
      · exact ⟨(hHeld.1).old hb1, (hHeld.2.1).old hb1, (hHeld.2.2.1).old hb1, (hHeld.2.2.2.1).old hb1, (hHeld.2.2.2.2).trans ((hb1).mono (hHeld.2.2.2.2).size)⟩
      clear hK K
      try simp only [Act.put, List.setIfInBounds_toArray, List.set_cons_zero, List.set_cons_succ]
      refine wpAnyH_ready (rs := [3, 10]) (by kernel_rfl) (by simp) ?_
      refine AllReadyH.cons rfl (fun K hK => ?_) (AllReadyH.cons rfl (fun K hK => ?_) (AllReadyH.nil))
      ·
        go_simp
        refine hK.out _ _ ?_ (fun hHeld => ?_)
        · exact ⟨(hHeld.1).old ((Below.refl _ _).alloc (Nat.le_refl _) _), (hHeld.2.1).old ((Below.refl _ _).alloc (Nat.le_refl _) _), (hHeld.2.2.1).old ((Below.refl _ _).alloc (Nat.le_refl _) _), (hHeld.2.2.2.1).old ((Below.refl _ _).alloc (Nat.le_refl _) _), (hHeld.2.2.2.2).trans ((((Below.refl _ _).alloc (Nat.le_refl _) _)).mono (hHeld.2.2.2.2).size)⟩
        clear hK K
        try simp only [Act.put, List.setIfInBounds_toArray, List.set_cons_zero, List.set_cons_succ]
        refine wpAnyH_ready (rs := [4, 10]) (by kernel_rfl) (by simp) ?_
        refine AllReadyH.cons rfl (fun K hK => ?_) (AllReadyH.cons rfl (fun K hK => ?_) (AllReadyH.nil))
        ·
          go_simp
          go_at_call 44
          refine (HP2.out _ _ (by repeat (first | with_reducible exact Row.new _ _ _ | exact rowAt _ _ (by first | rfl | simp only [World.size_alloc]) | with_reducible refine Row.old ?_ hb1 | with_reducible refine Row.old ?_ hb4 | with_reducible refine Row.old ?_ hb11 | with_reducible refine Row.alloc ?_ _ | with_reducible refine Row.drew ?_))).mono ?_
          rintro e v4 ⟨rfl, hb4⟩
          try go_simp
          refine hK.out _ _ ?_ (fun hHeld => ?_)
          · exact ⟨(hHeld.1).old hb4, (hHeld.2.1).old hb4, (hHeld.2.2.1).old hb4, (hHeld.2.2.2.1).old hb4, (hHeld.2.2.2.2).trans ((hb4).mono (hHeld.2.2.2.2).size)⟩
          clear hK K
          try simp only [Act.put, List.setIfInBounds_toArray, List.set_cons_zero, List.set_cons_succ]
          refine wpAnyH_ready (rs := [8, 10]) (by kernel_rfl) (by simp) ?_
          refine AllReadyH.cons rfl (fun K hK => ?_) (AllReadyH.cons rfl (fun K hK => ?_) (AllReadyH.nil))
          ·
            go_simp
            go_at_call 45
            refine (failed_any zb 6 _).mono ?_
            rintro e v8 ⟨rfl, rfl⟩
            try go_simp
            refine hK.out _ _ ?_ (fun hHeld => ?_)
            · exact hHeld
            clear hK K
            try simp only [Act.put, List.setIfInBounds_toArray, List.set_cons_zero, List.set_cons_succ]
            refine wpAnyH_ready (rs := [10]) (by kernel_rfl) (by simp) ?_
            refine AllReadyH.cons rfl (fun K hK => ?_) (AllReadyH.nil)
            go_simp
            refine hK.out _ _ ?_ (fun hHeld => ?_)
            · exact ⟨(hHeld.1).old ((Below.refl _ _).alloc (Nat.le_refl _) _), (hHeld.2.1).old ((Below.refl _ _).alloc (Nat.le_refl _) _), (hHeld.2.2.1).old ((Below.refl _ _).alloc (Nat.le_refl _) _), (hHeld.2.2.2.1).old ((Below.refl _ _).alloc (Nat.le_refl _) _), (hHeld.2.2.2.2).trans ((((Below.refl _ _).alloc (Nat.le_refl _) _)).mono (hHeld.2.2.2.2).size)⟩
            clear hK K
            try simp only [Act.put, List.setIfInBounds_toArray, List.set_cons_zero, List.set_cons_succ]
            refine wpAnyH_ready (rs := [11]) (by kernel_rfl) (by simp) ?_
            refine AllReadyH.cons rfl (fun K hK => ?_) (AllReadyH.nil)
            go_simp
            go_at_call 44
            refine (HP4.out _ _ (by repeat (first | with_reducible exact Row.new _ _ _ | exact rowAt _ _ (by first | rfl | simp only [World.size_alloc]) | with_reducible refine Row.old ?_ hb1 | with_reducible refine Row.old ?_ hb4 | with_reducible refine Row.old ?_ hb11 | with_reducible refine Row.alloc ?_ _ | with_reducible refine Row.drew ?_))).mono ?_
            rintro e v11 ⟨rfl, hb11⟩
            try go_simp
            refine hK.out _ _ ?_ (fun hHeld => ?_)
            · exact ⟨(hHeld.1).old hb11, (hHeld.2.1).old hb11, (hHeld.2.2.1).old hb11, (hHeld.2.2.2.1).old hb11, (hHeld.2.2.2.2).trans ((hb11).mono (hHeld.2.2.2.2).size)⟩
            clear hK K
            try simp only [Act.put, List.setIfInBounds_toArray, List.set_cons_zero, List.set_cons_succ]
            refine wpAnyH_ready (rs := [12]) (by kernel_rfl) (by simp) ?_
            refine AllReadyH.cons rfl (fun K hK => ?_) (AllReadyH.nil)
            go_simp
            refine hK.out _ _ ?_ (fun hHeld => ?_)
            · exact ⟨(hHeld.1).old ((Below.refl _ _).alloc (Nat.le_refl _) _), (hHeld.2.1).old ((Below.refl _ _).alloc (Nat.le_refl _) _), (hHeld.2.2.1).old ((Below.refl _ _).alloc (Nat.le_refl _) _), (hHeld.2.2.2.1).old ((Below.refl _ _).alloc (Nat.le_refl _) _), (hHeld.2.2.2.2).trans ((((Below.refl _ _).alloc (Nat.le_refl _) _)).mono (hHeld.2.2.2.2).size)⟩
            clear hK K
            try simp only [Act.put, List.setIfInBounds_toArray, List.set_cons_zero, List.set_cons_succ]
            refine wpAnyH_ready (rs := [13]) (by kernel_rfl) (by simp) ?_
            refine AllReadyH.cons rfl (fun K hK => ?_) (AllReadyH.nil)
            go_simp
            go_at_call 32
            refine (firstV_any _ _ _ [E1, E2, whenI zb 6, E4] _ ?_ rfl (by simp)).mono ?_
            · exact Rd.newT (t := 31)
            rintro e v99 ⟨rfl, rfl⟩
            try go_simp
            refine hK.out _ _ ?_ (fun hHeld => ?_)
            · exact hHeld
            clear hK K
            try simp only [Act.put, List.setIfInBounds_toArray, List.set_cons_zero, List.set_cons_succ]
            refine wpAnyH_take (i := 14) (oi := ⟨some 8, _, _, _, _, _⟩) (v := ?_) rfl (by kernel_rfl) (by kernel_rfl) (by kernel_rfl) (fun _ _ _ h => h) (Or.inl ⟨by kernel_rfl, ?_⟩) hHeld ?_
            rotate_left
            · intro w1 hSw; (try dsimp only at hSw); go_simp <;> with_reducible rfl
            try simp only [Act.put, List.setIfInBounds_toArray, List.set_cons_zero, List.set_cons_succ]
            refine wpAnyH_done (by kernel_rfl) ?_ _
            go_wp2_with fail
            go_meet
            exact ⟨by rw [HF.out], hHeld⟩
          ·
            go_simp
            refine hK.out _ _ ?_ (fun hHeld => ?_)
            · exact ⟨(hHeld.1).old ((Below.refl _ _).alloc (Nat.le_refl _) _), (hHeld.2.1).old ((Below.refl _ _).alloc (Nat.le_refl _) _), (hHeld.2.2.1).old ((Below.refl _ _).alloc (Nat.le_refl _) _), (hHeld.2.2.2.1).old ((Below.refl _ _).alloc (Nat.le_refl _) _), (hHeld.2.2.2.2).trans ((((Below.refl _ _).alloc (Nat.le_refl _) _)).mono (hHeld.2.2.2.2).size)⟩
            clear hK K
            try simp only [Act.put, List.setIfInBounds_toArray, List.set_cons_zero, List.set_cons_succ]
            refine wpAnyH_ready (rs := [8]) (by kernel_rfl) (by simp) ?_
            refine AllReadyH.cons rfl (fun K hK => ?_) (AllReadyH.nil)
            go_simp
            go_at_call 45
            refine (failed_any zb 6 _).mono ?_
            rintro e v8 ⟨rfl, rfl⟩
            try go_simp
            refine hK.out _ _ ?_ (fun hHeld => ?_)
            · exact hHeld
            clear hK K
            try simp only [Act.put, List.setIfInBounds_toArray, List.set_cons_zero, List.set_cons_succ]
            refine wpAnyH_ready (rs := [11]) (by kernel_rfl) (by simp) ?_
            refine AllReadyH.cons rfl (fun K hK => ?_) (AllReadyH.nil)
            go_simp
            go_at_call 44
            refine (HP4.out _ _ (by repeat (first | with_reducible exact Row.new _ _ _ | exact rowAt _ _ (by first | rfl | simp only [World.size_alloc]) | with_reducible refine Row.old ?_ hb1 | with_reducible refine Row.old ?_ hb4 | with_reducible refine Row.old ?_ hb11 | with_reducible refine Row.alloc ?_ _ | with_reducible refine Row.drew ?_))).mono ?_
            rintro e v11 ⟨rfl, hb11⟩
            try go_simp
            refine hK.out _ _ ?_ (fun hHeld => ?_)
            · exact ⟨(hHeld.1).old hb11, (hHeld.2.1).old hb11, (hHeld.2.2.1).old hb11, (hHeld.2.2.2.1).old hb11, (hHeld.2.2.2.2).trans ((hb11).mono (hHeld.2.2.2.2).size)⟩
            clear hK K
            try simp only [Act.put, List.setIfInBounds_toArray, List.set_cons_zero, List.set_cons_succ]
            refine wpAnyH_ready (rs := [12]) (by kernel_rfl) (by simp) ?_
            refine AllReadyH.cons rfl (fun K hK => ?_) (AllReadyH.nil)
            go_simp
            refine hK.out _ _ ?_ (fun hHeld => ?_)
            · exact ⟨(hHeld.1).old ((Below.refl _ _).alloc (Nat.le_refl _) _), (hHeld.2.1).old ((Below.refl _ _).alloc (Nat.le_refl _) _), (hHeld.2.2.1).old ((Below.refl _ _).alloc (Nat.le_refl _) _), (hHeld.2.2.2.1).old ((Below.refl _ _).alloc (Nat.le_refl _) _), (hHeld.2.2.2.2).trans ((((Below.refl _ _).alloc (Nat.le_refl _) _)).mono (hHeld.2.2.2.2).size)⟩
            clear hK K
            try simp only [Act.put, List.setIfInBounds_toArray, List.set_cons_zero, List.set_cons_succ]
            refine wpAnyH_ready (rs := [13]) (by kernel_rfl) (by simp) ?_
            refine AllReadyH.cons rfl (fun K hK => ?_) (AllReadyH.nil)
            go_simp
            go_at_call 32
            refine (firstV_any _ _ _ [E1, E2, whenI zb 6, E4] _ ?_ rfl (by simp)).mono ?_
            · exact Rd.newT (t := 31)
            rintro e v99 ⟨rfl, rfl⟩
            try go_simp
            refine hK.out _ _ ?_ (fun hHeld => ?_)
            · exact hHeld
            clear hK K
            try simp only [Act.put, List.setIfInBounds_toArray, List.set_cons_zero, List.set_cons_succ]
            refine wpAnyH_take (i := 14) (oi := ⟨some 8, _, _, _, _, _⟩) (v := ?_) rfl (by kernel_rfl) (by kernel_rfl) (by kernel_rfl) (fun _ _ _ h => h) (Or.inl ⟨by kernel_rfl, ?_⟩) hHeld ?_
            rotate_left
            · intro w1 hSw; (try dsimp only at hSw); go_simp <;> with_reducible rfl
            try simp only [Act.put, List.setIfInBounds_toArray, List.set_cons_zero, List.set_cons_succ]
            refine wpAnyH_done (by kernel_rfl) ?_ _
            go_wp2_with fail
            go_meet
            exact ⟨by rw [HF.out], hHeld⟩
        ·
          go_simp
          refine hK.out _ _ ?_ (fun hHeld => ?_)
          · exact ⟨(hHeld.1).old ((Below.refl _ _).alloc (Nat.le_refl _) _), (hHeld.2.1).old ((Below.refl _ _).alloc (Nat.le_refl _) _), (hHeld.2.2.1).old ((Below.refl _ _).alloc (Nat.le_refl _) _), (hHeld.2.2.2.1).old ((Below.refl _ _).alloc (Nat.le_refl _) _), (hHeld.2.2.2.2).trans ((((Below.refl _ _).alloc (Nat.le_refl _) _)).mono (hHeld.2.2.2.2).size)⟩
          clear hK K
          try simp only [Act.put, List.setIfInBounds_toArray, List.set_cons_zero, List.set_cons_succ]
          refine wpAnyH_ready (rs := [4]) (by kernel_rfl) (by simp) ?_
          refine AllReadyH.cons rfl (fun K hK => ?_) (AllReadyH.nil)
          go_simp
          go_at_call 44
          refine (HP2.out _ _ (by repeat (first | with_reducible exact Row.new _ _ _ | exact rowAt _ _ (by first | rfl | simp only [World.size_alloc]) | with_reducible refine Row.old ?_ hb1 | with_reducible refine Row.old ?_ hb4 | with_reducible refine Row.old ?_ hb11 | with_reducible refine Row.alloc ?_ _ | with_reducible refine Row.drew ?_))).mono ?_
          rintro e v4 ⟨rfl, hb4⟩
          try go_simp
          refine hK.out _ _ ?_ (fun hHeld => ?_)
          · exact ⟨(hHeld.1).old hb4, (hHeld.2.1).old hb4, (hHeld.2.2.1).old hb4, (hHeld.2.2.2.1).old hb4, (hHeld.2.2.2.2).trans ((hb4).mono (hHeld.2.2.2.2).size)⟩
          clear hK K
          try simp only [Act.put, List.setIfInBounds_toArray, List.set_cons_zero, List.set_cons_succ]
          refine wpAnyH_ready (rs := [8]) (by kernel_rfl) (by simp) ?_
          refine AllReadyH.cons rfl (fun K hK => ?_) (AllReadyH.nil)
          go_simp
          go_at_call 45
          refine (failed_any zb 6 _).mono ?_
          rintro e v8 ⟨rfl, rfl⟩
          try go_simp
          refine hK.out _ _ ?_ (fun hHeld => ?_)
          · exact hHeld
          clear hK K
          try simp only [Act.put, List.setIfInBounds_toArray, List.set_cons_zero, List.set_cons_succ]
          refine wpAnyH_ready (rs := [11]) (by kernel_rfl) (by simp) ?_
          refine AllReadyH.cons rfl (fun K hK => ?_) (AllReadyH.nil)
          go_simp
          go_at_call 44
          refine (HP4.out _ _ (by repeat (first | with_reducible exact Row.new _ _ _ | exact rowAt _ _ (by first | rfl | simp only [World.size_alloc]) | with_reducible refine Row.old ?_ hb1 | with_reducible refine Row.old ?_ hb4 | with_reducible refine Row.old ?_ hb11 | with_reducible refine Row.alloc ?_ _ | with_reducible refine Row.drew ?_))).mono ?_
          rintro e v11 ⟨rfl, hb11⟩
          try go_simp
          refine hK.out _ _ ?_ (fun hHeld => ?_)
          · exact ⟨(hHeld.1).old hb11, (hHeld.2.1).old hb11, (hHeld.2.2.1).old hb11, (hHeld.2.2.2.1).old hb11, (hHeld.2.2.2.2).trans ((hb11).mono (hHeld.2.2.2.2).size)⟩
          clear hK K
          try simp only [Act.put, List.setIfInBounds_toArray, List.set_cons_zero, List.set_cons_succ]
          refine wpAnyH_ready (rs := [12]) (by kernel_rfl) (by simp) ?_
          refine AllReadyH.cons rfl (fun K hK => ?_) (AllReadyH.nil)
          go_simp
          refine hK.out _ _ ?_ (fun hHeld => ?_)
          · exact ⟨(hHeld.1).old ((Below.refl _ _).alloc (Nat.le_refl _) _), (hHeld.2.1).old ((Below.refl _ _).alloc (Nat.le_refl _) _), (hHeld.2.2.1).old ((Below.refl _ _).alloc (Nat.le_refl _) _), (hHeld.2.2.2.1).old ((Below.refl _ _).alloc (Nat.le_refl _) _), (hHeld.2.2.2.2).trans ((((Below.refl _ _).alloc (Nat.le_refl _) _)).mono (hHeld.2.2.2.2).size)⟩
          clear hK K
          try simp only [Act.put, List.setIfInBounds_toArray, List.set_cons_zero, List.set_cons_succ]
          refine wpAnyH_ready (rs := [13]) (by kernel_rfl) (by simp) ?_
          refine AllReadyH.cons rfl (fun K hK => ?_) (AllReadyH.nil)
          go_simp
          go_at_call 32
          refine (firstV_any _ _ _ [E1, E2, whenI zb 6, E4] _ ?_ rfl (by simp)).mono ?_
          · exact Rd.newT (t := 31)
          rintro e v99 ⟨rfl, rfl⟩
          try go_simp
          refine hK.out _ _ ?_ (fun hHeld => ?_)
          · exact hHeld
          clear hK K
          try simp only [Act.put, List.setIfInBounds_toArray, List.set_cons_zero, List.set_cons_succ]
          refine wpAnyH_take (i := 14) (oi := ⟨some 8, _, _, _, _, _⟩) (v := ?_) rfl (by kernel_rfl) (by kernel_rfl) (by kernel_rfl) (fun _ _ _ h => h) (Or.inl ⟨by kernel_rfl, ?_⟩) hHeld ?_
          rotate_left
          · intro w1 hSw; (try dsimp only at hSw); go_simp <;> with_reducible rfl
          try simp only [Act.put, List.setIfInBounds_toArray, List.set_cons_zero, List.set_cons_succ]
          refine wpAnyH_done (by kernel_rfl) ?_ _
          go_wp2_with fail
          go_meet
          exact ⟨by rw [HF.out], hHeld⟩
      ·
        go_simp
        refine hK.out _ _ ?_ (fun hHeld => ?_)
        · exact ⟨(hHeld.1).old ((Below.refl _ _).alloc (Nat.le_refl _) _), (hHeld.2.1).old ((Below.refl _ _).alloc (Nat.le_refl _) _), (hHeld.2.2.1).old ((Below.refl _ _).alloc (Nat.le_refl _) _), (hHeld.2.2.2.1).old ((Below.refl _ _).alloc (Nat.le_refl _) _), (hHeld.2.2.2.2).trans ((((Below.refl _ _).alloc (Nat.le_refl _) _)).mono (hHeld.2.2.2.2).size)⟩
        clear hK K
        try simp only [Act.put, List.setIfInBounds_toArray, List.set_cons_zero, List.set_cons_succ]
        refine wpAnyH_ready (rs := [3]) (by kernel_rfl) (by simp) ?_
        refine AllReadyH.cons rfl (fun K hK => ?_) (AllReadyH.nil)
        go_simp
        refine hK.out _ _ ?_ (fun hHeld => ?_)
        · exact ⟨(hHeld.1).old ((Below.refl _ _).alloc (Nat.le_refl _) _), (hHeld.2.1).old ((Below.refl _ _).alloc (Nat.le_refl _) _), (hHeld.2.2.1).old ((Below.refl _ _).alloc (Nat.le_refl _) _), (hHeld.2.2.2.1).old ((Below.refl _ _).alloc (Nat.le_refl _) _), (hHeld.2.2.2.2).trans ((((Below.refl _ _).alloc (Nat.le_refl _) _)).mono (hHeld.2.2.2.2).size)⟩
        clear hK K
        try simp only [Act.put, List.setIfInBounds_toArray, List.set_cons_zero, List.set_cons_succ]
        refine wpAnyH_ready (rs := [4]) (by kernel_rfl) (by simp) ?_
        refine AllReadyH.cons rfl (fun K hK => ?_) (AllReadyH.nil)
        go_simp
        go_at_call 44
        refine (HP2.out _ _ (by repeat (first | with_reducible exact Row.new _ _ _ | exact rowAt _ _ (by first | rfl | simp only [World.size_alloc]) | with_reducible refine Row.old ?_ hb1 | with_reducible refine Row.old ?_ hb4 | with_reducible refine Row.old ?_ hb11 | with_reducible refine Row.alloc ?_ _ | with_reducible refine Row.drew ?_))).mono ?_
        rintro e v4 ⟨rfl, hb4⟩
        try go_simp
        refine hK.out _ _ ?_ (fun hHeld => ?_)
        · exact ⟨(hHeld.1).old hb4, (hHeld.2.1).old hb4, (hHeld.2.2.1).old hb4, (hHeld.2.2.2.1).old hb4, (hHeld.2.2.2.2).trans ((hb4).mono (hHeld.2.2.2.2).size)⟩
        clear hK K
        try simp only [Act.put, List.setIfInBounds_toArray, List.set_cons_zero, List.set_cons_succ]
        refine wpAnyH_ready (rs := [8]) (by kernel_rfl) (by simp) ?_
        refine AllReadyH.cons rfl (fun K hK => ?_) (AllReadyH.nil)
        go_simp
        go_at_call 45
        refine (failed_any zb 6 _).mono ?_
        rintro e v8 ⟨rfl, rfl⟩
        try go_simp
        refine hK.out _ _ ?_ (fun hHeld => ?_)
        · exact hHeld
        clear hK K
        try simp only [Act.put, List.setIfInBounds_toArray, List.set_cons_zero, List.set_cons_succ]
        refine wpAnyH_ready (rs := [11]) (by kernel_rfl) (by simp) ?_
        refine AllReadyH.cons rfl (fun K hK => ?_) (AllReadyH.nil)
        go_simp
        go_at_call 44
        refine (HP4.out _ _ (by repeat (first | with_reducible exact Row.new _ _ _ | exact rowAt _ _ (by first | rfl | simp only [World.size_alloc]) | with_reducible refine Row.old ?_ hb1 | with_reducible refine Row.old ?_ hb4 | with_reducible refine Row.old ?_ hb11 | with_reducible refine Row.alloc ?_ _ | with_reducible refine Row.drew ?_))).mono ?_
        rintro e v11 ⟨rfl, hb11⟩
        try go_simp
        refine hK.out _ _ ?_ (fun hHeld => ?_)
        · exact ⟨(hHeld.1).old hb11, (hHeld.2.1).old hb11, (hHeld.2.2.1).old hb11, (hHeld.2.2.2.1).old hb11, (hHeld.2.2.2.2).trans ((hb11).mono (hHeld.2.2.2.2).size)⟩
        clear hK K
        try simp only [Act.put, List.setIfInBounds_toArray, List.set_cons_zero, List.set_cons_succ]
        refine wpAnyH_ready (rs := [12]) (by kernel_rfl) (by simp) ?_
        refine AllReadyH.cons rfl (fun K hK => ?_) (AllReadyH.nil)
        go_simp
        refine hK.out _ _ ?_ (fun hHeld => ?_)
        · exact ⟨(hHeld.1).old ((Below.refl _ _).alloc (Nat.le_refl _) _), (hHeld.2.1).old ((Below.refl _ _).alloc (Nat.le_refl _) _), (hHeld.2.2.1).old ((Below.refl _ _).alloc (Nat.le_refl _) _), (hHeld.2.2.2.1).old ((Below.refl _ _).alloc (Nat.le_refl _) _), (hHeld.2.2.2.2).trans ((((Below.refl _ _).alloc (Nat.le_refl _) _)).mono (hHeld.2.2.2.2).size)⟩
        clear hK K
        try simp only [Act.put, List.setIfInBounds_toArray, List.set_cons_zero, List.set_cons_succ]
        refine wpAnyH_ready (rs := [13]) (by kernel_rfl) (by simp) ?_
        refine AllReadyH.cons rfl (fun K hK => ?_) (AllReadyH.nil)
        go_simp
        go_at_call 32
        refine (firstV_any _ _ _ [E1, E2, whenI zb 6, E4] _ ?_ rfl (by simp)).mono ?_
        · exact Rd.newT (t := 31)
        rintro e v99 ⟨rfl, rfl⟩
        try go_simp
        refine hK.out _ _ ?_ (fun hHeld => ?_)
        · exact hHeld
        clear hK K
        try simp only [Act.put, List.setIfInBounds_toArray, List.set_cons_zero, List.set_cons_succ]
        refine wpAnyH_take (i := 14) (oi := ⟨some 8, _, _, _, _, _⟩) (v := ?_) rfl (by kernel_rfl) (by kernel_rfl) (by kernel_rfl) (fun _ _ _ h => h) (Or.inl ⟨by kernel_rfl, ?_⟩) hHeld ?_
        rotate_left
        · intro w1 hSw; (try dsimp only at hSw); go_simp <;> with_reducible rfl
        try simp only [Act.put, List.setIfInBounds_toArray, List.set_cons_zero, List.set_cons_succ]
        refine wpAnyH_done (by kernel_rfl) ?_ _
        go_wp2_with fail
        go_meet
        exact ⟨by rw [HF.out], hHeld⟩
    ·
      go_simp
      refine hK.out _ _ ?_ (fun hHeld => ?_)
      · exact ⟨(hHeld.1).old ((Below.refl _ _).alloc (Nat.le_refl _) _), (hHeld.2.1).old ((Below.refl _ _).alloc (Nat.le_refl _) _), (hHeld.2.2.1).old ((Below.refl _ _).alloc (Nat.le_refl _) _), (hHeld.2.2.2.1).old ((Below.refl _ _).alloc (Nat.le_refl _) _), (hHeld.2.2.2.2).trans ((((Below.refl _ _).alloc (Nat.le_refl _) _)).mono (hHeld.2.2.2.2).size)⟩
      clear hK K
      try simp only [Act.put, List.setIfInBounds_toArray, List.set_cons_zero, List.set_cons_succ]
      refine wpAnyH_ready (rs := [1, 10]) (by kernel_rfl) (by simp) ?_
      refine AllReadyH.cons rfl (fun K hK => ?_) (AllReadyH.cons rfl (fun K hK => ?_) (AllReadyH.nil))
      ·
        go_simp
        go_at_call 38
        refine (HC.out _).mono ?_
        rintro e v1 ⟨rfl, hb1⟩
        try go_simp
        refine hK.out _ _ ?_ (fun hHeld => ?_)
        · exact ⟨(hHeld.1).old hb1, (hHeld.2.1).old hb1, (hHeld.2.2.1).old hb1, (hHeld.2.2.2.1).old hb1, (hHeld.2.2.2.2).trans ((hb1).mono (hHeld.2.2.2.2).size)⟩
        clear hK K
        try simp only [Act.put, List.setIfInBounds_toArray, List.set_cons_zero, List.set_cons_succ]
        refine wpAnyH_ready (rs := [4, 10]) (by kernel_rfl) (by simp) ?_
        refine AllReadyH.cons rfl (fun K hK => ?_) (AllReadyH.cons rfl (fun K hK => ?_) (AllReadyH.nil))
        ·
          go_simp
          go_at_call 44
          refine (HP2.out _ _ (by repeat (first | with_reducible exact Row.new _ _ _ | exact rowAt _ _ (by first | rfl | simp only [World.size_alloc]) | with_reducible refine Row.old ?_ hb1 | with_reducible refine Row.old ?_ hb4 | with_reducible refine Row.old ?_ hb11 | with_reducible refine Row.alloc ?_ _ | with_reducible refine Row.drew ?_))).mono ?_
          rintro e v4 ⟨rfl, hb4⟩
          try go_simp
          refine hK.out _ _ ?_ (fun hHeld => ?_)
          · exact ⟨(hHeld.1).old hb4, (hHeld.2.1).old hb4, (hHeld.2.2.1).old hb4, (hHeld.2.2.2.1).old hb4, (hHeld.2.2.2.2).trans ((hb4).mono (hHeld.2.2.2.2).size)⟩
          clear hK K
          try simp only [Act.put, List.setIfInBounds_toArray, List.set_cons_zero, List.set_cons_succ]
          refine wpAnyH_ready (rs := [8, 10]) (by kernel_rfl) (by simp) ?_
          refine AllReadyH.cons rfl (fun K hK => ?_) (AllReadyH.cons rfl (fun K hK => ?_) (AllReadyH.nil))
          ·
            go_simp
            go_at_call 45
            refine (failed_any zb 6 _).mono ?_
            rintro e v8 ⟨rfl, rfl⟩
            try go_simp
            refine hK.out _ _ ?_ (fun hHeld => ?_)
            · exact hHeld
            clear hK K
            try simp only [Act.put, List.setIfInBounds_toArray, List.set_cons_zero, List.set_cons_succ]
            refine wpAnyH_ready (rs := [10]) (by kernel_rfl) (by simp) ?_
            refine AllReadyH.cons rfl (fun K hK => ?_) (AllReadyH.nil)
            go_simp
            refine hK.out _ _ ?_ (fun hHeld => ?_)
            · exact ⟨(hHeld.1).old ((Below.refl _ _).alloc (Nat.le_refl _) _), (hHeld.2.1).old ((Below.refl _ _).alloc (Nat.le_refl _) _), (hHeld.2.2.1).old ((Below.refl _ _).alloc (Nat.le_refl _) _), (hHeld.2.2.2.1).old ((Below.refl _ _).alloc (Nat.le_refl _) _), (hHeld.2.2.2.2).trans ((((Below.refl _ _).alloc (Nat.le_refl _) _)).mono (hHeld.2.2.2.2).size)⟩
            clear hK K
            try simp only [Act.put, List.setIfInBounds_toArray, List.set_cons_zero, List.set_cons_succ]
            refine wpAnyH_ready (rs := [11]) (by kernel_rfl) (by simp) ?_
            refine AllReadyH.cons rfl (fun K hK => ?_) (AllReadyH.nil)
            go_simp
            go_at_call 44
            refine (HP4.out _ _ (by repeat (first | with_reducible exact Row.new _ _ _ | exact rowAt _ _ (by first | rfl | simp only [World.size_alloc]) | with_reducible refine Row.old ?_ hb1 | with_reducible refine Row.old ?_ hb4 | with_reducible refine Row.old ?_ hb11 | with_reducible refine Row.alloc ?_ _ | with_reducible refine Row.drew ?_))).mono ?_
            rintro e v11 ⟨rfl, hb11⟩
            try go_simp
            refine hK.out _ _ ?_ (fun hHeld => ?_)
            · exact ⟨(hHeld.1).old hb11, (hHeld.2.1).old hb11, (hHeld.2.2.1).old hb11, (hHeld.2.2.2.1).old hb11, (hHeld.2.2.2.2).trans ((hb11).mono (hHeld.2.2.2.2).size)⟩
            clear hK K
            try simp only [Act.put, List.setIfInBounds_toArray, List.set_cons_zero, List.set_cons_succ]
            refine wpAnyH_ready (rs := [12]) (by kernel_rfl) (by simp) ?_
            refine AllReadyH.cons rfl (fun K hK => ?_) (AllReadyH.nil)
            go_simp
            refine hK.out _ _ ?_ (fun hHeld => ?_)
            · exact ⟨(hHeld.1).old ((Below.refl _ _).alloc (Nat.le_refl _) _), (hHeld.2.1).old ((Below.refl _ _).alloc (Nat.le_refl _) _), (hHeld.2.2.1).old ((Below.refl _ _).alloc (Nat.le_refl _) _), (hHeld.2.2.2.1).old ((Below.refl _ _).alloc (Nat.le_refl _) _), (hHeld.2.2.2.2).trans ((((Below.refl _ _).alloc (Nat.le_refl _) _)).mono (hHeld.2.2.2.2).size)⟩
            clear hK K
            try simp only [Act.put, List.setIfInBounds_toArray, List.set_cons_zero, List.set_cons_succ]
            refine wpAnyH_ready (rs := [13]) (by kernel_rfl) (by simp) ?_
            refine AllReadyH.cons rfl (fun K hK => ?_) (AllReadyH.nil)
            go_simp
            go_at_call 32
            refine (firstV_any _ _ _ [E1, E2, whenI zb 6, E4] _ ?_ rfl (by simp)).mono ?_
            · exact Rd.newT (t := 31)
            rintro e v99 ⟨rfl, rfl⟩
            try go_simp
            refine hK.out _ _ ?_ (fun hHeld => ?_)
            · exact hHeld
            clear hK K
            try simp only [Act.put, List.setIfInBounds_toArray, List.set_cons_zero, List.set_cons_succ]
            refine wpAnyH_take (i := 14) (oi := ⟨some 8, _, _, _, _, _⟩) (v := ?_) rfl (by kernel_rfl) (by kernel_rfl) (by kernel_rfl) (fun _ _ _ h => h) (Or.inl ⟨by kernel_rfl, ?_⟩) hHeld ?_
            rotate_left
            · intro w1 hSw; (try dsimp only at hSw); go_simp <;> with_reducible rfl
            try simp only [Act.put, List.setIfInBounds_toArray, List.set_cons_zero, List.set_cons_succ]
            refine wpAnyH_done (by kernel_rfl) ?_ _
            go_wp2_with fail
            go_meet
            exact ⟨by rw [HF.out], hHeld⟩
          ·
            go_simp
            refine hK.out _ _ ?_ (fun hHeld => ?_)
            · exact ⟨(hHeld.1).old ((Below.refl _ _).alloc (Nat.le_refl _) _), (hHeld.2.1).old ((Below.refl _ _).alloc (Nat.le_refl _) _), (hHeld.2.2.1).old ((Below.refl _ _).alloc (Nat.le_refl _) _), (hHeld.2.2.2.1).old ((Below.refl _ _).alloc (Nat.le_refl _) _), (hHeld.2.2.2.2).trans ((((Below.refl _ _).alloc (Nat.le_refl _) _)).mono (hHeld.2.2.2.2).size)⟩
            clear hK K
            try simp only [Act.put, List.setIfInBounds_toArray, List.set_cons_zero, List.set_cons_succ]
            refine wpAnyH_ready (rs := [8]) (by kernel_rfl) (by simp) ?_
            refine AllReadyH.cons rfl (fun K hK => ?_) (AllReadyH.nil)
            go_simp
            go_at_call 45
            refine (failed_any zb 6 _).mono ?_
            rintro e v8 ⟨rfl, rfl⟩
            try go_simp
            refine hK.out _ _ ?_ (fun hHeld => ?_)
            · exact hHeld
            clear hK K
            try simp only [Act.put, List.setIfInBounds_toArray, List.set_cons_zero, List.set_cons_succ]
            refine wpAnyH_ready (rs := [11]) (by kernel_rfl) (by simp) ?_
            refine AllReadyH.cons rfl (fun K hK => ?_) (AllReadyH.nil)
            go_simp
            go_at_call 44
            refine (HP4.out _ _ (by repeat (first | with_reducible exact Row.new _ _ _ | exact rowAt _ _ (by first | rfl | simp only [World.size_alloc]) | with_reducible refine Row.old ?_ hb1 | with_reducible refine Row.old ?_ hb4 | with_reducible refine Row.old ?_ hb11 | with_reducible refine Row.alloc ?_ _ | with_reducible refine Row.drew ?_))).mono ?_
            rintro e v11 ⟨rfl, hb11⟩
            try go_simp
            refine hK.out _ _ ?_ (fun hHeld => ?_)
            · exact ⟨(hHeld.1).old hb11, (hHeld.2.1).old hb11, (hHeld.2.2.1).old hb11, (hHeld.2.2.2.1).old hb11, (hHeld.2.2.2.2).trans ((hb11).mono (hHeld.2.2.2.2).size)⟩
            clear hK K
            try simp only [Act.put, List.setIfInBounds_toArray, List.set_cons_zero, List.set_cons_succ]
            refine wpAnyH_ready (rs := [12]) (by kernel_rfl) (by simp) ?_
            refine AllReadyH.cons rfl (fun K hK => ?_) (AllReadyH.nil)
            go_simp
            refine hK.out _ _ ?_ (fun hHeld => ?_)
            · exact ⟨(hHeld.1).old ((Below.refl _ _).alloc (Nat.le_refl _) _), (hHeld.2.1).old ((Below.refl _ _).alloc (Nat.le_refl _) _), (hHeld.2.2.1).old ((Below.refl _ _).alloc (Nat.le_refl _) _), (hHeld.2.2.2.1).old ((Below.refl _ _).alloc (Nat.le_refl _) _), (hHeld.2.2.2.2).trans ((((Below.refl _ _).alloc (Nat.le_refl _) _)).mono (hHeld.2.2.2.2).size)⟩
            clear hK K
            try simp only [Act.put, List.setIfInBounds_toArray, List.set_cons_zero, List.set_cons_succ]
            refine wpAnyH_ready (rs := [13]) (by kernel_rfl) (by simp) ?_
            refine AllReadyH.cons rfl (fun K hK => ?_) (AllReadyH.nil)
            go_simp
            go_at_call 32
            refine (firstV_any _ _ _ [E1, E2, whenI zb 6, E4] _ ?_ rfl (by simp)).mono ?_
            · exact Rd.newT (t := 31)
            rintro e v99 ⟨rfl, rfl⟩
            try go_simp
            refine hK.out _ _ ?_ (fun hHeld => ?_)
            · exact hHeld
            clear hK K
            try simp only [Act.put, List.setIfInBounds_toArray, List.set_cons_zero, List.set_cons_succ]
            refine wpAnyH_take (i := 14) (oi := ⟨some 8, _, _, _, _, _⟩) (v := ?_) rfl (by kernel_rfl) (by kernel_rfl) (by kernel_rfl) (fun _ _ _ h => h) (Or.inl ⟨by kernel_rfl, ?_⟩) hHeld ?_
            rotate_left
            · intro w1 hSw; (try dsimp only at hSw); go_simp <;> with_reducible rfl
            try simp only [Act.put, List.setIfInBounds_toArray, List.set_cons_zero, List.set_cons_succ]
            refine wpAnyH_done (by kernel_rfl) ?_ _
            go_wp2_with fail
            go_meet
            exact ⟨by rw [HF.out], hHeld⟩
        ·
          go_simp
          refine hK.out _ _ ?_ (fun hHeld => ?_)
          · exact ⟨(hHeld.1).old ((Below.refl _ _).alloc (Nat.le_refl _) _), (hHeld.2.1).old ((Below.refl _ _).alloc (Nat.le_refl _) _), (hHeld.2.2.1).old ((Below.refl _ _).alloc (Nat.le_refl _) _), (hHeld.2.2.2.1).old ((Below.refl _ _).alloc (Nat.le_refl _) _), (hHeld.2.2.2.2).trans ((((Below.refl _ _).alloc (Nat.le_refl _) _)).mono (hHeld.2.2.2.2).size)⟩
          clear hK K
          try simp only [Act.put, List.setIfInBounds_toArray, List.set_cons_zero, List.set_cons_succ]
          refine wpAnyH_ready (rs := [4]) (by kernel_rfl) (by simp) ?_
          refine AllReadyH.cons rfl (fun K hK => ?_) (AllReadyH.nil)
          go_simp
          go_at_call 44
          refine (HP2.out _ _ (by repeat (first | with_reducible exact Row.new _ _ _ | exact rowAt _ _ (by first | rfl | simp only [World.size_alloc]) | with_reducible refine Row.old ?_ hb1 | with_reducible refine Row.old ?_ hb4 | with_reducible refine Row.old ?_ hb11 | with_reducible refine Row.alloc ?_ _ | with_reducible refine Row.drew ?_))).mono ?_
          rintro e v4 ⟨rfl, hb4⟩
          try go_simp
          refine hK.out _ _ ?_ (fun hHeld => ?_)
          · exact ⟨(hHeld.1).old hb4, (hHeld.2.1).old hb4, (hHeld.2.2.1).old hb4, (hHeld.2.2.2.1).old hb4, (hHeld.2.2.2.2).trans ((hb4).mono (hHeld.2.2.2.2).size)⟩
          clear hK K
          try simp only [Act.put, List.setIfInBounds_toArray, List.set_cons_zero, List.set_cons_succ]
          refine wpAnyH_ready (rs := [8]) (by kernel_rfl) (by simp) ?_
          refine AllReadyH.cons rfl (fun K hK => ?_) (AllReadyH.nil)
          go_simp
          go_at_call 45
          refine (failed_any zb 6 _).mono ?_
          rintro e v8 ⟨rfl, rfl⟩
          try go_simp
          refine hK.out _ _ ?_ (fun hHeld => ?_)
          · exact hHeld
          clear hK K
          try simp only [Act.put, List.setIfInBounds_toArray, List.set_cons_zero, List.set_cons_succ]
          refine wpAnyH_ready (rs := [11]) (by kernel_rfl) (by simp) ?_
          refine AllReadyH.cons rfl (fun K hK => ?_) (AllReadyH.nil)
          go_simp
          go_at_call 44
          refine (HP4.out _ _ (by repeat (first | with_reducible exact Row.new _ _ _ | exact rowAt _ _ (by first | rfl | simp only [World.size_alloc]) | with_reducible refine Row.old ?_ hb1 | with_reducible refine Row.old ?_ hb4 | with_reducible refine Row.old ?_ hb11 | with_reducible refine Row.alloc ?_ _ | with_reducible refine Row.drew ?_))).mono ?_
          rintro e v11 ⟨rfl, hb11⟩
          try go_simp
          refine hK.out _ _ ?_ (fun hHeld => ?_)
          · exact ⟨(hHeld.1).old hb11, (hHeld.2.1).old hb11, (hHeld.2.2.1).old hb11, (hHeld.2.2.2.1).old hb11, (hHeld.2.2.2.2).trans ((hb11).mono (hHeld.2.2.2.2).size)⟩
          clear hK K
          try simp only [Act.put, List.setIfInBounds_toArray, List.set_cons_zero, List.set_cons_succ]
          refine wpAnyH_ready (rs := [12]) (by kernel_rfl) (by simp) ?_
          refine AllReadyH.cons rfl (fun K hK => ?_) (AllReadyH.nil)
          go_simp
          refine hK.out _ _ ?_ (fun hHeld => ?_)
          · exact ⟨(hHeld.1).old ((Below.refl _ _).alloc (Nat.le_refl _) _), (hHeld.2.1).old ((Below.refl _ _).alloc (Nat.le_refl _) _), (hHeld.2.2.1).old ((Below.refl _ _).alloc (Nat.le_refl _) _), (hHeld.2.2.2.1).old ((Below.refl _ _).alloc (Nat.le_refl _) _), (hHeld.2.2.2.2).trans ((((Below.refl _ _).alloc (Nat.le_refl _) _)).mono (hHeld.2.2.2.2).size)⟩
          clear hK K
          try simp only [Act.put, List.setIfInBounds_toArray, List.set_cons_zero, List.set_cons_succ]
          refine wpAnyH_ready (rs := [13]) (by kernel_rfl) (by simp) ?_
          refine AllReadyH.cons rfl (fun K hK => ?_) (AllReadyH.nil)
          go_simp
          go_at_call 32
          refine (firstV_any _ _ _ [E1, E2, whenI zb 6, E4] _ ?_ rfl (by simp)).mono ?_
          · exact Rd.newT (t := 31)
          rintro e v99 ⟨rfl, rfl⟩
          try go_simp
          refine hK.out _ _ ?_ (fun hHeld => ?_)
          · exact hHeld
          clear hK K
          try simp only [Act.put, List.setIfInBounds_toArray, List.set_cons_zero, List.set_cons_succ]
          refine wpAnyH_take (i := 14) (oi := ⟨some 8, _, _, _, _, _⟩) (v := ?_) rfl (by kernel_rfl) (by kernel_rfl) (by kernel_rfl) (fun _ _ _ h => h) (Or.inl ⟨by kernel_rfl, ?_⟩) hHeld ?_
          rotate_left
          · intro w1 hSw; (try dsimp only at hSw); go_simp <;> with_reducible rfl
          try simp only [Act.put, List.setIfInBounds_toArray, List.set_cons_zero, List.set_cons_succ]
          refine wpAnyH_done (by kernel_rfl) ?_ _
          go_wp2_with fail
          go_meet
          exact ⟨by rw [HF.out], hHeld⟩
      ·
        go_simp
        refine hK.out _ _ ?_ (fun hHeld => ?_)
        · exact ⟨(hHeld.1).old ((Below.refl _ _).alloc (Nat.le_refl _) _), (hHeld.2.1).old ((Below.refl _ _).alloc (Nat.le_refl _) _), (hHeld.2.2.1).old ((Below.refl _ _).alloc (Nat.le_refl _) _), (hHeld.2.2.2.1).old ((Below.refl _ _).alloc (Nat.le_refl _) _), (hHeld.2.2.2.2).trans ((((Below.refl _ _).alloc (Nat.le_refl _) _)).mono (hHeld.2.2.2.2).size)⟩
        clear hK K
        try simp only [Act.put, List.setIfInBounds_toArray, List.set_cons_zero, List.set_cons_succ]
        refine wpAnyH_ready (rs := [1]) (by kernel_rfl) (by simp) ?_
        refine AllReadyH.cons rfl (fun K hK => ?_) (AllReadyH.nil)
        go_simp
        go_at_call 38
        refine (HC.out _).mono ?_
        rintro e v1 ⟨rfl, hb1⟩
        try go_simp
        refine hK.out _ _ ?_ (fun hHeld => ?_)
        · exact ⟨(hHeld.1).old hb1, (hHeld.2.1).old hb1, (hHeld.2.2.1).old hb1, (hHeld.2.2.2.1).old hb1, (hHeld.2.2.2.2).trans ((hb1).mono (hHeld.2.2.2.2).size)⟩
        clear hK K
        try simp only [Act.put, List.setIfInBounds_toArray, List.set_cons_zero, List.set_cons_succ]
        refine wpAnyH_ready (rs := [4]) (by kernel_rfl) (by simp) ?_
        refine AllReadyH.cons rfl (fun K hK => ?_) (AllReadyH.nil)
        go_simp
        go_at_call 44
        refine (HP2.out _ _ (by repeat (first | with_reducible exact Row.new _ _ _ | exact rowAt _ _ (by first | rfl | simp only [World.size_alloc]) | with_reducible refine Row.old ?_ hb1 | with_reducible refine Row.old ?_ hb4 | with_reducible refine Row.old ?_ hb11 | with_reducible refine Row.alloc ?_ _ | with_reducible refine Row.drew ?_))).mono ?_
        rintro e v4 ⟨rfl, hb4⟩
        try go_simp
        refine hK.out _ _ ?_ (fun hHeld => ?_)
        · exact ⟨(hHeld.1).old hb4, (hHeld.2.1).old hb4, (hHeld.2.2.1).old hb4, (hHeld.2.2.2.1).old hb4, (hHeld.2.2.2.2).trans ((hb4).mono (hHeld.2.2.2.2).size)⟩
        clear hK K
        try simp only [Act.put, List.setIfInBounds_toArray, List.set_cons_zero, List.set_cons_succ]
        refine wpAnyH_ready (rs := [8]) (by kernel_rfl) (by simp) ?_
        refine AllReadyH.cons rfl (fun K hK => ?_) (AllReadyH.nil)
        go_simp
        go_at_call 45
        refine (failed_any zb 6 _).mono ?_
        rintro e v8 ⟨rfl, rfl⟩
        try go_simp
        refine hK.out _ _ ?_ (fun hHeld => ?_)
        · exact hHeld
        clear hK K
        try simp only [Act.put, List.setIfInBounds_toArray, List.set_cons_zero, List.set_cons_succ]
        refine wpAnyH_ready (rs := [11]) (by kernel_rfl) (by simp) ?_
        refine AllReadyH.cons rfl (fun K hK => ?_) (AllReadyH.nil)
        go_simp
        go_at_call 44
        refine (HP4.out _ _ (by repeat (first | with_reducible exact Row.new _ _ _ | exact rowAt _ _ (by first | rfl | simp only [World.size_alloc]) | with_reducible refine Row.old ?_ hb1 | with_reducible refine Row.old ?_ hb4 | with_reducible refine Row.old ?_ hb11 | with_reducible refine Row.alloc ?_ _ | with_reducible refine Row.drew ?_))).mono ?_
        rintro e v11 ⟨rfl, hb11⟩
        try go_simp
        refine hK.out _ _ ?_ (fun hHeld => ?_)
        · exact ⟨(hHeld.1).old hb11, (hHeld.2.1).old hb11, (hHeld.2.2.1).old hb11, (hHeld.2.2.2.1).old hb11, (hHeld.2.2.2.2).trans ((hb11).mono (hHeld.2.2.2.2).size)⟩
        clear hK K
        try simp only [Act.put, List.setIfInBounds_toArray, List.set_cons_zero, List.set_cons_succ]
        refine wpAnyH_ready (rs := [12]) (by kernel_rfl) (by simp) ?_
        refine AllReadyH.cons rfl (fun K hK => ?_) (AllReadyH.nil)
        go_simp
        refine hK.out _ _ ?_ (fun hHeld => ?_)
        · exact ⟨(hHeld.1).old ((Below.refl _ _).alloc (Nat.le_refl _) _), (hHeld.2.1).old ((Below.refl _ _).alloc (Nat.le_refl _) _), (hHeld.2.2.1).old ((Below.refl _ _).alloc (Nat.le_refl _) _), (hHeld.2.2.2.1).old ((Below.refl _ _).alloc (Nat.le_refl _) _), (hHeld.2.2.2.2).trans ((((Below.refl _ _).alloc (Nat.le_refl _) _)).mono (hHeld.2.2.2.2).size)⟩
        clear hK K
        try simp only [Act.put, List.setIfInBounds_toArray, List.set_cons_zero, List.set_cons_succ]
        refine wpAnyH_ready (rs := [13]) (by kernel_rfl) (by simp) ?_
        refine AllReadyH.cons rfl (fun K hK => ?_) (AllReadyH.nil)
        go_simp
        go_at_call 32
        refine (firstV_any _ _ _ [E1, E2, whenI zb 6, E4] _ ?_ rfl (by simp)).mono ?_
        · exact Rd.newT (t := 31)
        rintro e v99 ⟨rfl, rfl⟩
        try go_simp
        refine hK.out _ _ ?_ (fun hHeld => ?_)
        · exact hHeld
        clear hK K
        try simp only [Act.put, List.setIfInBounds_toArray, List.set_cons_zero, List.set_cons_succ]
        refine wpAnyH_take (i := 14) (oi := ⟨some 8, _, _, _, _, _⟩) (v := ?_) rfl (by kernel_rfl) (by kernel_rfl) (by kernel_rfl) (fun _ _ _ h => h) (Or.inl ⟨by kernel_rfl, ?_⟩) hHeld ?_
        rotate_left
        · intro w1 hSw; (try dsimp only at hSw); go_simp <;> with_reducible rfl
        try simp only [Act.put, List.setIfInBounds_toArray, List.set_cons_zero, List.set_cons_succ]
        refine wpAnyH_done (by kernel_rfl) ?_ _
        go_wp2_with fail
        go_meet
        exact ⟨by rw [HF.out], hHeld⟩
    ·
      go_simp
      refine hK.out _ _ ?_ (fun hHeld => ?_)
      · exact ⟨(hHeld.1).old ((Below.refl _ _).alloc (Nat.le_refl _) _), (hHeld.2.1).old ((Below.refl _ _).alloc (Nat.le_refl _) _), (hHeld.2.2.1).old ((Below.refl _ _).alloc (Nat.le_refl _) _), (hHeld.2.2.2.1).old ((Below.refl _ _).alloc (Nat.le_refl _) _), (hHeld.2.2.2.2).trans ((((Below.refl _ _).alloc (Nat.le_refl _) _)).mono (hHeld.2.2.2.2).size)⟩
      clear hK K
      try simp only [Act.put, List.setIfInBounds_toArray, List.set_cons_zero, List.set_cons_succ]
      refine wpAnyH_ready (rs := [1, 3]) (by kernel_rfl) (by simp) ?_
      refine AllReadyH.cons rfl (fun K hK => ?_) (AllReadyH.cons rfl (fun K hK => ?_) (AllReadyH.nil))
      ·
        go_simp
        go_at_call 38
        refine (HC.out _).mono ?_
        rintro e v1 ⟨rfl, hb1⟩
        try go_simp
        refine hK.out _ _ ?_ (fun hHeld => ?_)
        · exact ⟨(hHeld.1).old hb1, (hHeld.2.1).old hb1, (hHeld.2.2.1).old hb1, (hHeld.2.2.2.1).old hb1, (hHeld.2.2.2.2).trans ((hb1).mono (hHeld.2.2.2.2).size)⟩
        clear hK K
        try simp only [Act.put, List.setIfInBounds_toArray, List.set_cons_zero, List.set_cons_succ]
        refine wpAnyH_ready (rs := [3]) (by kernel_rfl) (by simp) ?_
        refine AllReadyH.cons rfl (fun K hK => ?_) (AllReadyH.nil)
        go_simp
        refine hK.out _ _ ?_ (fun hHeld => ?_)
        · exact ⟨(hHeld.1).old ((Below.refl _ _).alloc (Nat.le_refl _) _), (hHeld.2.1).old ((Below.refl _ _).alloc (Nat.le_refl _) _), (hHeld.2.2.1).old ((Below.refl _ _).alloc (Nat.le_refl _) _), (hHeld.2.2.2.1).old ((Below.refl _ _).alloc (Nat.le_refl _) _), (hHeld.2.2.2.2).trans ((((Below.refl _ _).alloc (Nat.le_refl _) _)).mono (hHeld.2.2.2.2).size)⟩
        clear hK K
        try simp only [Act.put, List.setIfInBounds_toArray, List.set_cons_zero, List.set_cons_succ]
        refine wpAnyH_ready (rs := [4]) (by kernel_rfl) (by simp) ?_
        refine AllReadyH.cons rfl (fun K hK => ?_) (AllReadyH.nil)
        go_simp
        go_at_call 44
        refine (HP2.out _ _ (by repeat (first | with_reducible exact Row.new _ _ _ | exact rowAt _ _ (by first | rfl | simp only [World.size_alloc]) | with_reducible refine Row.old ?_ hb1 | with_reducible refine Row.old ?_ hb4 | with_reducible refine Row.old ?_ hb11 | with_reducible refine Row.alloc ?_ _ | with_reducible refine Row.drew ?_))).mono ?_
        rintro e v4 ⟨rfl, hb4⟩
        try go_simp
        refine hK.out _ _ ?_ (fun hHeld => ?_)
        · exact ⟨(hHeld.1).old hb4, (hHeld.2.1).old hb4, (hHeld.2.2.1).old hb4, (hHeld.2.2.2.1).old hb4, (hHeld.2.2.2.2).trans ((hb4).mono (hHeld.2.2.2.2).size)⟩
        clear hK K
        try simp only [Act.put, List.setIfInBounds_toArray, List.set_cons_zero, List.set_cons_succ]
        refine wpAnyH_ready (rs := [8]) (by kernel_rfl) (by simp) ?_
        refine AllReadyH.cons rfl (fun K hK => ?_) (AllReadyH.nil)
        go_simp
        go_at_call 45
        refine (failed_any zb 6 _).mono ?_
        rintro e v8 ⟨rfl, rfl⟩
        try go_simp
        refine hK.out _ _ ?_ (fun hHeld => ?_)
        · exact hHeld
        clear hK K
        try simp only [Act.put, List.setIfInBounds_toArray, List.set_cons_zero, List.set_cons_succ]
        refine wpAnyH_ready (rs := [11]) (by kernel_rfl) (by simp) ?_
        refine AllReadyH.cons rfl (fun K hK => ?_) (AllReadyH.nil)
        go_simp
        go_at_call 44
        refine (HP4.out _ _ (by repeat (first | with_reducible exact Row.new _ _ _ | exact rowAt _ _ (by first | rfl | simp only [World.size_alloc]) | with_reducible refine Row.old ?_ hb1 | with_reducible refine Row.old ?_ hb4 | with_reducible refine Row.old ?_ hb11 | with_reducible refine Row.alloc ?_ _ | with_reducible refine Row.drew ?_))).mono ?_
        rintro e v11 ⟨rfl, hb11⟩
        try go_simp
        refine hK.out _ _ ?_ (fun hHeld => ?_)
        · exact ⟨(hHeld.1).old hb11, (hHeld.2.1).old hb11, (hHeld.2.2.1).old hb11, (hHeld.2.2.2.1).old hb11, (hHeld.2.2.2.2).trans ((hb11).mono (hHeld.2.2.2.2).size)⟩
        clear hK K
        try simp only [Act.put, List.setIfInBounds_toArray, List.set_cons_zero, List.set_cons_succ]
        refine wpAnyH_ready (rs := [12]) (by kernel_rfl) (by simp) ?_
        refine AllReadyH.cons rfl (fun K hK => ?_) (AllReadyH.nil)
        go_simp
        refine hK.out _ _ ?_ (fun hHeld => ?_)
        · exact ⟨(hHeld.1).old ((Below.refl _ _).alloc (Nat.le_refl _) _), (hHeld.2.1).old ((Below.refl _ _).alloc (Nat.le_refl _) _), (hHeld.2.2.1).old ((Below.refl _ _).alloc (Nat.le_refl _) _), (hHeld.2.2.2.1).old ((Below.refl _ _).alloc (Nat.le_refl _) _), (hHeld.2.2.2.2).trans ((((Below.refl _ _).alloc (Nat.le_refl _) _)).mono (hHeld.2.2.2.2).size)⟩
        clear hK K
        try simp only [Act.put, List.setIfInBounds_toArray, List.set_cons_zero, List.set_cons_succ]
        refine wpAnyH_ready (rs := [13]) (by kernel_rfl) (by simp) ?_
        refine AllReadyH.cons rfl (fun K hK => ?_) (AllReadyH.nil)
        go_simp
        go_at_call 32
        refine (firstV_any _ _ _ [E1, E2, whenI zb 6, E4] _ ?_ rfl (by simp)).mono ?_
        · exact Rd.newT (t := 31)
        rintro e v99 ⟨rfl, rfl⟩
        try go_simp
        refine hK.out _ _ ?_ (fun hHeld => ?_)
        · exact hHeld
        clear hK K
        try simp only [Act.put, List.setIfInBounds_toArray, List.set_cons_zero, List.set_cons_succ]
        refine wpAnyH_take (i := 14) (oi := ⟨some 8, _, _, _, _, _⟩) (v := ?_) rfl (by kernel_rfl) (by kernel_rfl) (by kernel_rfl) (fun _ _ _ h => h) (Or.inl ⟨by kernel_rfl, ?_⟩) hHeld ?_
        rotate_left
        · intro w1 hSw; (try dsimp only at hSw); go_simp <;> with_reducible rfl
        try simp only [Act.put, List.setIfInBounds_toArray, List.set_cons_zero, List.set_cons_succ]
        refine wpAnyH_done (by kernel_rfl) ?_ _
        go_wp2_with fail
        go_meet
        exact ⟨by rw [HF.out], hHeld⟩
      ·
        go_simp
        refine hK.out _ _ ?_ (fun hHeld => ?_)
        · exact ⟨(hHeld.1).old ((Below.refl _ _).alloc (Nat.le_refl _) _), (hHeld.2.1).old ((Below.refl _ _).alloc (Nat.le_refl _) _), (hHeld.2.2.1).old ((Below.refl _ _).alloc (Nat.le_refl _) _), (hHeld.2.2.2.1).old ((Below.refl _ _).alloc (Nat.le_refl _) _), (hHeld.2.2.2.2).trans ((((Below.refl _ _).alloc (Nat.le_refl _) _)).mono (hHeld.2.2.2.2).size)⟩
        clear hK K
        try simp only [Act.put, List.setIfInBounds_toArray, List.set_cons_zero, List.set_cons_succ]
        refine wpAnyH_ready (rs := [1]) (by kernel_rfl) (by simp) ?_
        refine AllReadyH.cons rfl (fun K hK => ?_) (AllReadyH.nil)
        go_simp
        go_at_call 38
        refine (HC.out _).mono ?_
        rintro e v1 ⟨rfl, hb1⟩
        try go_simp
        refine hK.out _ _ ?_ (fun hHeld => ?_)
        · exact ⟨(hHeld.1).old hb1, (hHeld.2.1).old hb1, (hHeld.2.2.1).old hb1, (hHeld.2.2.2.1).old hb1, (hHeld.2.2.2.2).trans ((hb1).mono (hHeld.2.2.2.2).size)⟩
        clear hK K
        try simp only [Act.put, List.setIfInBounds_toArray, List.set_cons_zero, List.set_cons_succ]
        refine wpAnyH_ready (rs := [4]) (by kernel_rfl) (by simp) ?_
        refine AllReadyH.cons rfl (fun K hK => ?_) (AllReadyH.nil)
        go_simp
        go_at_call 44
        refine (HP2.out _ _ (by repeat (first | with_reducible exact Row.new _ _ _ | exact rowAt _ _ (by first | rfl | simp only [World.size_alloc]) | with_reducible refine Row.old ?_ hb1 | with_reducible refine Row.old ?_ hb4 | with_reducible refine Row.old ?_ hb11 | with_reducible refine Row.alloc ?_ _ | with_reducible refine Row.drew ?_))).mono ?_
        rintro e v4 ⟨rfl, hb4⟩
        try go_simp
        refine hK.out _ _ ?_ (fun hHeld => ?_)
        · exact ⟨(hHeld.1).old hb4, (hHeld.2.1).old hb4, (hHeld.2.2.1).old hb4, (hHeld.2.2.2.1).old hb4, (hHeld.2.2.2.2).trans ((hb4).mono (hHeld.2.2.2.2).size)⟩
        clear hK K
        try simp only [Act.put, List.setIfInBounds_toArray, List.set_cons_zero, List.set_cons_succ]
        refine wpAnyH_ready (rs := [8]) (by kernel_rfl) (by simp) ?_
        refine AllReadyH.cons rfl (fun K hK => ?_) (AllReadyH.nil)
        go_simp
        go_at_call 45
        refine (failed_any zb 6 _).mono ?_
        rintro e v8 ⟨rfl, rfl⟩
        try go_simp
        refine hK.out _ _ ?_ (fun hHeld => ?_)
        · exact hHeld
        clear hK K
        try simp only [Act.put, List.setIfInBounds_toArray, List.set_cons_zero, List.set_cons_succ]
        refine wpAnyH_ready (rs := [11]) (by kernel_rfl) (by simp) ?_
        refine AllReadyH.cons rfl (fun K hK => ?_) (AllReadyH.nil)
        go_simp
        go_at_call 44
        refine (HP4.out _ _ (by repeat (first | with_reducible exact Row.new _ _ _ | exact rowAt _ _ (by first | rfl | simp only [World.size_alloc]) | with_reducible refine Row.old ?_ hb1 | with_reducible refine Row.old ?_ hb4 | with_reducible refine Row.old ?_ hb11 | with_reducible refine Row.alloc ?_ _ | with_reducible refine Row.drew ?_))).mono ?_
        rintro e v11 ⟨rfl, hb11⟩
        try go_simp
        refine hK.out _ _ ?_ (fun hHeld => ?_)
        · exact ⟨(hHeld.1).old hb11, (hHeld.2.1).old hb11, (hHeld.2.2.1).old hb11, (hHeld.2.2.2.1).old hb11, (hHeld.2.2.2.2).trans ((hb11).mono (hHeld.2.2.2.2).size)⟩
        clear hK K
        try simp only [Act.put, List.setIfInBounds_toArray, List.set_cons_zero, List.set_cons_succ]
        refine wpAnyH_ready (rs := [12]) (by kernel_rfl) (by simp) ?_
        refine AllReadyH.cons rfl (fun K hK => ?_) (AllReadyH.nil)
        go_simp
        refine hK.out _ _ ?_ (fun hHeld => ?_)
        · exact ⟨(hHeld.1).old ((Below.refl _ _).alloc (Nat.le_refl _) _), (hHeld.2.1).old ((Below.refl _ _).alloc (Nat.le_refl _) _), (hHeld.2.2.1).old ((Below.refl _ _).alloc (Nat.le_refl _) _), (hHeld.2.2.2.1).old ((Below.refl _ _).alloc (Nat.le_refl _) _), (hHeld.2.2.2.2).trans ((((Below.refl _ _).alloc (Nat.le_refl _) _)).mono (hHeld.2.2.2.2).size)⟩
        clear hK K
        try simp only [Act.put, List.setIfInBounds_toArray, List.set_cons_zero, List.set_cons_succ]
        refine wpAnyH_ready (rs := [13]) (by kernel_rfl) (by simp) ?_
        refine AllReadyH.cons rfl (fun K hK => ?_) (AllReadyH.nil)
        go_simp
        go_at_call 32
        refine (firstV_any _ _ _ [E1, E2, whenI zb 6, E4] _ ?_ rfl (by simp)).mono ?_
        · exact Rd.newT (t := 31)
        rintro e v99 ⟨rfl, rfl⟩
        try go_simp
        refine hK.out _ _ ?_ (fun hHeld => ?_)
        · exact hHeld
        clear hK K
        try simp only [Act.put, List.setIfInBounds_toArray, List.set_cons_zero, List.set_cons_succ]
        refine wpAnyH_take (i := 14) (oi := ⟨some 8, _, _, _, _, _⟩) (v := ?_) rfl (by kernel_rfl) (by kernel_rfl) (by kernel_rfl) (fun _ _ _ h => h) (Or.inl ⟨by kernel_rfl, ?_⟩) hHeld ?_
        rotate_left
        · intro w1 hSw; (try dsimp only at hSw); go_simp <;> with_reducible rfl
        try simp only [Act.put, List.setIfInBounds_toArray, List.set_cons_zero, List.set_cons_succ]
        refine wpAnyH_done (by kernel_rfl) ?_ _
        go_wp2_with fail
        go_meet
        exact ⟨by rw [HF.out], hHeld⟩
  case rest =>
  obtain ⟨rfl, hHeld⟩ := hcut
  have HS3 : Hid (Row wc (w.heap.size) 34 [.int .i64 a, .int .i64 b, .int .i64 c, .int .i64 d, .int .i64 x, .int .i64 y] ∧ Row wc (w.heap.size + 1) 25 [.int .i64 k, .int .i64 l] ∧ Row wc (w.heap.size + 1 + 1) 25 [.int .i64 m, .int .i64 n] ∧ Row wc (w.heap.size + 1 + 1 + 1) 34 [.int .i64 0, .int .i64 0, .int .i64 0, .int .i64 0, .int .i64 0, .int .i64 0] ∧ Below w.heap.size w wc) := hHeld
  clear hHeld HS1 HC HP2 HP4 HF hz
  by_cases h0 : E = 0
  · have HM := Lib.hid (HM0.out h0); have HRS := Lib.hid (HR0.out h0)
    have hne : (E == 0) = true := by simpa using h0
    have hne2 : (E != 0) = false := by simpa using h0
    clear HB0 HM0 HR0 h0
    go_wp2_with (first | (refine wpList_load_row rfl 34 _ rfl (w.heap.size) rfl 34 #[.int .i64 a, .int .i64 b, .int .i64 c, .int .i64 d, .int .i64 x, .int .i64 y] (0, 0) _ HS3.out.1 Tryz.underlying34 rfl ?_ ?_; (kernel_rfl)) | (refine wpList_load_row rfl 25 _ rfl (w.heap.size + 1) rfl 25 #[.int .i64 k, .int .i64 l] (0, 0) _ HS3.out.2.1 Tryz.underlying25 rfl ?_ ?_; (kernel_rfl)) | (refine wpList_load_row rfl 25 _ rfl (w.heap.size + 1 + 1) rfl 25 #[.int .i64 m, .int .i64 n] (0, 0) _ HS3.out.2.2.1 Tryz.underlying25 rfl ?_ ?_; (kernel_rfl)) | (go_at_call 40; refine (HM.out _).mono ?_; rintro e w5 ⟨rfl, hb_w5⟩; have HS5 : Hid (Row w5 (w.heap.size) 34 [.int .i64 a, .int .i64 b, .int .i64 c, .int .i64 d, .int .i64 x, .int .i64 y] ∧ Row w5 (w.heap.size + 1) 25 [.int .i64 k, .int .i64 l] ∧ Row w5 (w.heap.size + 1 + 1) 25 [.int .i64 m, .int .i64 n] ∧ Row w5 (w.heap.size + 1 + 1 + 1) 34 [.int .i64 0, .int .i64 0, .int .i64 0, .int .i64 0, .int .i64 0, .int .i64 0] ∧ Below w.heap.size w w5) := ⟨(HS3.out.1).old hb_w5, (HS3.out.2.1).old hb_w5, (HS3.out.2.2.1).old hb_w5, (HS3.out.2.2.2.1).old hb_w5, (HS3.out.2.2.2.2).trans (hb_w5.mono (HS3.out.2.2.2.2).size)⟩; clear hb_w5) | (go_at_call 42; refine (HRS.out _).mono ?_; rintro e w6 ⟨rfl, hb_w6⟩; have HS6 : Hid (Row w6 (w.heap.size) 34 [.int .i64 a, .int .i64 b, .int .i64 c, .int .i64 d, .int .i64 x, .int .i64 y] ∧ Row w6 (w.heap.size + 1) 25 [.int .i64 k, .int .i64 l] ∧ Row w6 (w.heap.size + 1 + 1) 25 [.int .i64 m, .int .i64 n] ∧ Row w6 (w.heap.size + 1 + 1 + 1) 34 [.int .i64 0, .int .i64 0, .int .i64 0, .int .i64 0, .int .i64 0, .int .i64 0] ∧ Below w.heap.size w w6) := ⟨(HS5.out.1).old hb_w6, (HS5.out.2.1).old hb_w6, (HS5.out.2.2.1).old hb_w6, (HS5.out.2.2.2.1).old hb_w6, (HS5.out.2.2.2.2).trans (hb_w6.mono (HS5.out.2.2.2.2).size)⟩; clear hb_w6) | (refine wpList_store_row rfl 34 _ _ rfl (w.heap.size + 1 + 1 + 1) #[.int .i64 r1, .int .i64 r2, .int .i64 r3, .int .i64 r4, .int .i64 r5, .int .i64 r6] rfl rfl 34 _ HS6.out.2.2.2.1 ?_ ?_ ?_ ?_; (kernel_rfl); (rfl); (simp [Value.oneCell'])))
    refine bodyPost_ret (results_rt rfl _ _ (w.heap.size + 1 + 1 + 1) 34 #[.int .i64 r1, .int .i64 r2, .int .i64 r3, .int .i64 r4, .int .i64 r5, .int .i64 r6] (0, 0) _ rfl (HS6.out.2.2.2.1.setRow [.int .i64 r1, .int .i64 r2, .int .i64 r3, .int .i64 r4, .int .i64 r5, .int .i64 r6]) Tryz.underlying34 rfl (by kernel_rfl)) rfl ⟨rfl, Below.setRow HS6.out.2.2.2.2 (by omega) _⟩
  · obtain ⟨rfl, rfl, rfl, rfl, rfl, rfl, rfl⟩ := HB0.out h0
    have hne : (ER == 0) = false := by simpa using h0
    have hne2 : (ER != 0) = true := by simpa using h0
    clear HB0 HM0 HR0 h0
    go_wp2_with (refine wpList_store_row rfl 34 _ _ rfl (w.heap.size + 1 + 1 + 1) #[.int .i64 0, .int .i64 0, .int .i64 0, .int .i64 0, .int .i64 0, .int .i64 0] rfl rfl 34 _ HS3.out.2.2.2.1 ?_ ?_ ?_ ?_; (kernel_rfl); (rfl); (simp [Value.oneCell']))
    refine bodyPost_ret (results_rt rfl _ _ (w.heap.size + 1 + 1 + 1) 34 #[.int .i64 0, .int .i64 0, .int .i64 0, .int .i64 0, .int .i64 0, .int .i64 0] (0, 0) _ rfl (HS3.out.2.2.2.1.setRow [.int .i64 0, .int .i64 0, .int .i64 0, .int .i64 0, .int .i64 0, .int .i64 0]) Tryz.underlying34 rfl (by kernel_rfl)) rfl ⟨rfl, Below.setRow HS3.out.2.2.2.2 (by omega) _⟩
set_option maxRecDepth 100000 in
set_option maxHeartbeats 1000000 in
theorem scaled_ok (a b c d x y k l m n : Int) (w : World) (hE : firstI [sigE a b c d x y, firstI ([(k, l)].map (partE 1000)), whenI (k == 0 && l == 0) 6, firstI ([(m, n)].map (partE 1000))] = 0) : Calls Tryz.prog 10 #[.agg #[.int .i64 a, .int .i64 b, .int .i64 c, .int .i64 d, .int .i64 x, .int .i64 y], .agg #[.int .i64 k, .int .i64 l], .agg #[.int .i64 m, .int .i64 n]] w fun e w' => e = .returned (.tuple #[.agg (resV [a * k - b * l, a * l + b * k, c * m - d * n, c * n + d * m, x * m - y * n, x * n + y * m] (bigE (sigE (a * k - b * l) (a * l + b * k) (c * m - d * n) (c * n + d * m) (x * m - y * n) (x * n + y * m)))).toArray, .int .i64 (bigE (sigE (a * k - b * l) (a * l + b * k) (c * m - d * n) (c * n + d * m) (x * m - y * n) (x * n + y * m)))]) ∧ Below w.heap.size w w' := by
  obtain ⟨hs, q1, -, q2⟩ := fI4 hE
  have hg := sig_good hs
  have g4 := part1000 q1
  have g5 := part1000 q2
  have HM := fun W => mulS_any a b c d x y k l m n W hg.g1 hg.g2 hg.g3 g4 g5
  obtain ⟨p1, hp1⟩ : ∃ p, p = a * k - b * l := ⟨_, rfl⟩
  obtain ⟨p2, hp2⟩ : ∃ p, p = a * l + b * k := ⟨_, rfl⟩
  obtain ⟨p3, hp3⟩ : ∃ p, p = c * m - d * n := ⟨_, rfl⟩
  obtain ⟨p4, hp4⟩ : ∃ p, p = c * n + d * m := ⟨_, rfl⟩
  obtain ⟨p5, hp5⟩ : ∃ p, p = x * m - y * n := ⟨_, rfl⟩
  obtain ⟨p6, hp6⟩ : ∃ p, p = x * n + y * m := ⟨_, rfl⟩
  rw [← hp1, ← hp2, ← hp3, ← hp4, ← hp5, ← hp6] at HM
  rw [← hp1, ← hp2, ← hp3, ← hp4, ← hp5, ← hp6]
  obtain ⟨EE, hEE⟩ : ∃ EE, EE = bigE (sigE p1 p2 p3 p4 p5 p6) := ⟨_, rfl⟩
  rw [← hEE]
  obtain ⟨r1, r2, r3, r4, r5, r6, hr⟩ := resV_six p1 p2 p3 p4 p5 p6 EE
  rw [hr]
  have HRS : Hid (∀ W, Calls Tryz.prog 42 #[.agg #[.int .i64 p1, .int .i64 p2, .int .i64 p3, .int .i64 p4, .int .i64 p5, .int .i64 p6]] W fun e w' => e = .returned (.tuple #[.agg #[.int .i64 r1, .int .i64 r2, .int .i64 r3, .int .i64 r4, .int .i64 r5, .int .i64 r6], .int .i64 EE]) ∧ Below W.heap.size W w') := fun W => by have h := result_any p1 p2 p3 p4 p5 p6 W; rw [← hEE, hr] at h; exact h
  exact scaled_walk a b c d x y k l m n 0 EE p1 p2 p3 p4 p5 p6 r1 r2 r3 r4 r5 r6 w hE (fun h => absurd rfl h) (fun _ => HM) (fun _ => HRS.out)
end Go.Proofs.YtlflfieknibgmaaGreatDoor
