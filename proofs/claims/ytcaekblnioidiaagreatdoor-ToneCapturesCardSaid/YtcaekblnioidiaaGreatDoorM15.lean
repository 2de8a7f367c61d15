import Derived.Test.YtcaekblnioidiaaGreatDoorM14
namespace Go.Proofs.YtcaekblnioidiaaGreatDoor
set_option linter.all false
open Go.RowKit Go.Fl
theorem firstI_left (l : List Int) (k : List Int) : firstI (firstI l :: k) = firstI (l ++ k) := by
 induction l with
 | nil => rfl
 | cons x l ih =>
   by_cases h : x = 0
   · subst h
     have e1 : firstI (0 :: l) = firstI l := by rw [firstI, if_pos rfl]
     have e2 : firstI (0 :: (l ++ k)) = firstI (l ++ k) := by rw [firstI, if_pos rfl]
     rw [e1, List.cons_append, e2]
     exact ih
   · have e1 : firstI (x :: l) = x := by rw [firstI, if_neg h]
     rw [e1, List.cons_append, firstI, if_neg h, firstI, if_neg h]
theorem sigE_ref (a b c d x y : Int) : firstI [partE 10000 (a, b), partE 10000 (c, d), partE 10000 (x, y), whenI (a == 0 && b == 0) 6] = sigE a b c d x y := by
 unfold sigE
 rw [firstI_left]
 rfl
set_option maxRecDepth 100000 in
set_option maxHeartbeats 1000000 in
theorem checkPartR_any (a b M : Int) (w : World) (hM : M.natAbs ≤ 1000000) : Calls Tryz.prog 73 #[.agg #[.int .i64 a, .int .i64 b], .int .i64 M] w fun e w' => e = .returned (.int .i64 (partE M (a, b))) ∧ Below w.heap.size w w' := by
 have e1 : IntKind.i64.wrap (-M) = -M := IntWalk.i64_in _ (by omega)
 have e2 : IntKind.i64.wrap (0 - M) = -M := by rw [Int.zero_sub]; exact e1
 clear hM
 go_enter Tryz.func73, Tryz.ntmps73
 go_upto_region 1 with fail
 refine genT (fun V => Row V (w.heap.size) 23 [.int .i64 a, .int .i64 b] ∧ Below w.heap.size w V) ⟨(rowAt _ _ (by first | rfl | simp only [World.size_alloc])), ((Below.refl _ _).alloc (by first | exact Nat.le_refl _ | (simp only [World.size_alloc]; omega)) _)⟩ ?_
 intro W1 s1
 have HS1 := Lib.hid s1
 clear s1
 refine wp_region_held_drew (S := fun V => Row V (w.heap.size) 23 [.int .i64 a, .int .i64 b] ∧ Below w.heap.size w V) (by kernel_rfl) ?_ (fun hHeld => ?_)
 · exact ⟨(HS1.out.1).drew, (HS1.out.2).drew⟩
 refine tk 0 5 ?_ rfl (by kernel_rfl) (fun _ _ _ h => h) (by kernel_rfl) ?_ hHeld ?_
 rotate_left
 · intro w1 hSw; (try dsimp only at hSw); go_simp <;> with_reducible rfl
 try simp only [zz]
 refine tk 1 6 ?_ rfl (by kernel_rfl) (fun _ _ _ h => h) (by kernel_rfl) ?_ hHeld ?_
 rotate_left
 · intro w1 hSw; (try dsimp only at hSw); have cc := (hSw.1).cell 0; simp only [List.getElem?_cons_succ, List.getElem?_cons_zero] at cc; go_simp <;> with_reducible rfl
 try simp only [zz]
 refine tk 2 7 ?_ rfl (by kernel_rfl) (fun _ _ _ h => h) (by kernel_rfl) ?_ hHeld ?_
 rotate_left
 · intro w1 hSw; (try dsimp only at hSw); go_simp <;> with_reducible rfl
 try simp only [zz]
 refine tk 3 8 ?_ rfl (by kernel_rfl) (fun _ _ _ h => h) (by kernel_rfl) ?_ hHeld ?_
 rotate_left
 · intro w1 hSw; (try dsimp only at hSw); go_simp <;> with_reducible rfl
 try simp only [zz]
 refine tk 4 9 ?_ rfl (by kernel_rfl) (fun _ _ _ h => h) (by kernel_rfl) ?_ hHeld ?_
 rotate_left
 · intro w1 hSw; (try dsimp only at hSw); go_simp <;> with_reducible rfl
 try simp only [zz]
 refine tk 6 11 ?_ rfl (by kernel_rfl) (fun _ _ _ h => h) (by kernel_rfl) ?_ hHeld ?_
 rotate_left
 · intro w1 hSw; (try dsimp only at hSw); go_simp <;> with_reducible rfl
 try simp only [zz]
 refine tk 7 12 ?_ rfl (by kernel_rfl) (fun _ _ _ h => h) (by kernel_rfl) ?_ hHeld ?_
 rotate_left
 · intro w1 hSw; (try dsimp only at hSw); have cc := (hSw.1).cell 1; simp only [List.getElem?_cons_succ, List.getElem?_cons_zero] at cc; go_simp <;> with_reducible rfl
 try simp only [zz]
 refine tk 8 13 ?_ rfl (by kernel_rfl) (fun _ _ _ h => h) (by kernel_rfl) ?_ hHeld ?_
 rotate_left
 · intro w1 hSw; (try dsimp only at hSw); go_simp <;> with_reducible rfl
 try simp only [zz]
 refine tk 9 14 ?_ rfl (by kernel_rfl) (fun _ _ _ h => h) (by kernel_rfl) ?_ hHeld ?_
 rotate_left
 · intro w1 hSw; (try dsimp only at hSw); go_simp <;> with_reducible rfl
 try simp only [zz]
 refine tk 10 15 ?_ rfl (by kernel_rfl) (fun _ _ _ h => h) (by kernel_rfl) ?_ hHeld ?_
 rotate_left
 · intro w1 hSw; (try dsimp only at hSw); go_simp <;> with_reducible rfl
 try simp only [zz]
 refine st1 5 (by kernel_rfl) rfl (fun K hK => ?_)
 go_simp
 go_at_call 40
 refine (checkRange_any a (-M) M _).mono ?_
 rintro e v5 ⟨rfl, rfl⟩
 try go_simp
 refine hK.out _ _ ?_ (fun hHeld => ?_)
 · exact hHeld
 clear hK K
 try simp only [zz]
 refine st1 11 (by kernel_rfl) rfl (fun K hK => ?_)
 go_simp
 go_at_call 40
 refine (checkRange_any b (-M) M _).mono ?_
 rintro e v11 ⟨rfl, rfl⟩
 try go_simp
 refine hK.out _ _ ?_ (fun hHeld => ?_)
 · exact hHeld
 clear hK K
 try simp only [zz]
 refine st1 12 (by kernel_rfl) rfl (fun K hK => ?_)
 go_simp
 refine hK.out _ _ ?_ (fun hHeld => ?_)
 · exact ⟨(hHeld.1).old ((Below.refl _ _).alloc (Nat.le_refl _) _), (hHeld.2).trans ((((Below.refl _ _).alloc (Nat.le_refl _) _)).mono (hHeld.2).size)⟩
 clear hK K
 try simp only [zz]
 refine st1 13 (by kernel_rfl) rfl (fun K hK => ?_)
 go_simp
 go_at_call 24
 refine (first_any _ _ _ [whenI (rangeB a (-M) M) 3, whenI (rangeB b (-M) M) 3] _ ?_ rfl (by simp)).mono ?_
 · exact Rd.newT (t := 3)
 rintro e v99 ⟨rfl, rfl⟩
 try go_simp
 refine hK.out _ _ ?_ (fun hHeld => ?_)
 · exact hHeld
 clear hK K
 try simp only [zz]
 refine tk 14 4 ?_ rfl (by kernel_rfl) (fun _ _ _ h => h) (by kernel_rfl) ?_ hHeld ?_
 rotate_left
 · intro w1 hSw; (try dsimp only at hSw); go_simp <;> with_reducible rfl
 try simp only [zz]
 refine wpAnyH_done (by kernel_rfl) ?_ _
 go_wp2_with fail
 go_ret
 exact ⟨rfl, hHeld.2⟩
set_option maxRecDepth 100000 in
set_option maxHeartbeats 1000000 in
theorem zeroR_any (a b : Int) (w : World) : Calls Tryz.prog 75 #[.agg #[.int .i64 a, .int .i64 b]] w fun e w' => e = .returned (.bool (a == 0 && b == 0)) ∧ Below w.heap.size w w' := by
 by_cases ha : a = 0
 · have h1 : (a == 0) = true := by simpa using ha
   clear ha
   go_enter Tryz.func75, Tryz.ntmps75
   go_upto_region 1 with fail
   refine genT (fun V => Row V (w.heap.size) 23 [.int .i64 a, .int .i64 b] ∧ Below w.heap.size w V) ⟨(rowAt _ _ (by first | rfl | simp only [World.size_alloc])), ((Below.refl _ _).alloc (by first | exact Nat.le_refl _ | (simp only [World.size_alloc]; omega)) _)⟩ ?_
   intro W1 s1
   have HS1 := Lib.hid s1
   clear s1
   have c0 := HS1.out.1.cell 0; have c1 := HS1.out.1.cell 1
   simp only [List.getElem?_cons_succ, List.getElem?_cons_zero] at c0 c1
   go_wp2_with fail
   go_ret
   exact ⟨by rw [h1]; first | rfl | simp, HS1.out.2⟩
 · have h1 : (a == 0) = false := by simpa using ha
   clear ha
   go_enter Tryz.func75, Tryz.ntmps75
   go_upto_region 1 with fail
   refine genT (fun V => Row V (w.heap.size) 23 [.int .i64 a, .int .i64 b] ∧ Below w.heap.size w V) ⟨(rowAt _ _ (by first | rfl | simp only [World.size_alloc])), ((Below.refl _ _).alloc (by first | exact Nat.le_refl _ | (simp only [World.size_alloc]; omega)) _)⟩ ?_
   intro W1 s1
   have HS1 := Lib.hid s1
   clear s1
   have c0 := HS1.out.1.cell 0; have c1 := HS1.out.1.cell 1
   simp only [List.getElem?_cons_succ, List.getElem?_cons_zero] at c0 c1
   go_wp2_with fail
   go_ret
   exact ⟨by rw [h1]; rfl, HS1.out.2⟩
set_option maxRecDepth 100000 in
set_option maxHeartbeats 1000000 in
theorem checkSignalR_any (a b c d x y : Int) (w : World) : Calls Tryz.prog 13 #[.agg #[.int .i64 a, .int .i64 b, .int .i64 c, .int .i64 d, .int .i64 x, .int .i64 y]] w fun e w' => e = .returned (.int .i64 (sigE a b c d x y)) ∧ Below w.heap.size w w' := by
 rw [← sigE_ref]
 obtain ⟨P1, hP1⟩ : ∃ P, P = partE 10000 (a, b) := ⟨_, rfl⟩
 obtain ⟨P2, hP2⟩ : ∃ P, P = partE 10000 (c, d) := ⟨_, rfl⟩
 obtain ⟨P3, hP3⟩ : ∃ P, P = partE 10000 (x, y) := ⟨_, rfl⟩
 obtain ⟨zb, hzb⟩ : ∃ zb, zb = (a == 0 && b == 0) := ⟨_, rfl⟩
 have HC1 : Hid (∀ W, Calls Tryz.prog 73 #[.agg #[.int .i64 a, .int .i64 b], .int .i64 10000] W fun e w' => e = .returned (.int .i64 P1) ∧ Below W.heap.size W w') := fun W => by rw [hP1]; exact checkPartR_any a b 10000 W (by decide)
 have HC2 : Hid (∀ W, Calls Tryz.prog 73 #[.agg #[.int .i64 c, .int .i64 d], .int .i64 10000] W fun e w' => e = .returned (.int .i64 P2) ∧ Below W.heap.size W w') := fun W => by rw [hP2]; exact checkPartR_any c d 10000 W (by decide)
 have HC3 : Hid (∀ W, Calls Tryz.prog 73 #[.agg #[.int .i64 x, .int .i64 y], .int .i64 10000] W fun e w' => e = .returned (.int .i64 P3) ∧ Below W.heap.size W w') := fun W => by rw [hP3]; exact checkPartR_any x y 10000 W (by decide)
 have HZ : Hid (∀ W, Calls Tryz.prog 75 #[.agg #[.int .i64 a, .int .i64 b]] W fun e w' => e = .returned (.bool zb) ∧ Below W.heap.size W w') := fun W => by rw [hzb]; exact zeroR_any a b W
 rw [← hP1, ← hP2, ← hP3, ← hzb]
 clear hP1 hP2 hP3 hzb
 go_enter Tryz.func13, Tryz.ntmps13
 go_upto_region 1 with fail
 refine genT (fun V => Row V (w.heap.size) 25 [.int .i64 a, .int .i64 b, .int .i64 c, .int .i64 d, .int .i64 x, .int .i64 y] ∧ Below w.heap.size w V) ⟨(rowAt _ _ (by first | rfl | simp only [World.size_alloc])), ((Below.refl _ _).alloc (by first | exact Nat.le_refl _ | (simp only [World.size_alloc]; omega)) _)⟩ ?_
 intro W1 s1
 have HS1 := Lib.hid s1
 clear s1
 refine wp_region_held_drew (S := fun V => Row V (w.heap.size) 25 [.int .i64 a, .int .i64 b, .int .i64 c, .int .i64 d, .int .i64 x, .int .i64 y] ∧ Below w.heap.size w V) (by kernel_rfl) ?_ (fun hHeld => ?_)
 · exact ⟨(HS1.out.1).drew, (HS1.out.2).drew⟩
 refine tk 0 3 ?_ rfl (by kernel_rfl) (fun _ _ _ h => h) (by kernel_rfl) ?_ hHeld ?_
 rotate_left
 · intro w1 hSw; (try dsimp only at hSw); go_simp <;> with_reducible rfl
 try simp only [zz]
 refine tk 1 4 (.agg #[.int .i64 a, .int .i64 b]) rfl (by kernel_rfl) (fun _ _ _ h => h) (by kernel_rfl) (fun V hV => ex_Gauss _ rfl (w.heap.size) 0 rfl ((hV.1).cell 0) ((hV.1).cell 1)) hHeld ?_
 try simp only [zz]
 refine tk 3 6 ?_ rfl (by kernel_rfl) (fun _ _ _ h => h) (by kernel_rfl) ?_ hHeld ?_
 rotate_left
 · intro w1 hSw; (try dsimp only at hSw); go_simp <;> with_reducible rfl
 try simp only [zz]
 refine tk 4 7 (.agg #[.int .i64 c, .int .i64 d]) rfl (by kernel_rfl) (fun _ _ _ h => h) (by kernel_rfl) (fun V hV => ex_Gauss _ rfl (w.heap.size) 2 rfl ((hV.1).cell 2) ((hV.1).cell 3)) hHeld ?_
 try simp only [zz]
 refine tk 6 9 ?_ rfl (by kernel_rfl) (fun _ _ _ h => h) (by kernel_rfl) ?_ hHeld ?_
 rotate_left
 · intro w1 hSw; (try dsimp only at hSw); go_simp <;> with_reducible rfl
 try simp only [zz]
 refine tk 7 10 (.agg #[.int .i64 x, .int .i64 y]) rfl (by kernel_rfl) (fun _ _ _ h => h) (by kernel_rfl) (fun V hV => ex_Gauss _ rfl (w.heap.size) 4 rfl ((hV.1).cell 4) ((hV.1).cell 5)) hHeld ?_
 try simp only [zz]
 refine tk 9 12 ?_ rfl (by kernel_rfl) (fun _ _ _ h => h) (by kernel_rfl) ?_ hHeld ?_
 rotate_left
 · intro w1 hSw; (try dsimp only at hSw); go_simp <;> with_reducible rfl
 try simp only [zz]
 refine tk 10 13 (.agg #[.int .i64 a, .int .i64 b]) rfl (by kernel_rfl) (fun _ _ _ h => h) (by kernel_rfl) (fun V hV => ex_Gauss _ rfl (w.heap.size) 0 rfl ((hV.1).cell 0) ((hV.1).cell 1)) hHeld ?_
 try simp only [zz]
 refine st1 2 (by kernel_rfl) rfl (fun K hK => ?_)
 go_simp
 go_at_call 73
 refine (HC1.out _).mono ?_
 rintro e v2 ⟨rfl, hb2⟩
 try go_simp
 refine hK.out _ _ ?_ (fun hHeld => ?_)
 · exact ⟨(hHeld.1).old hb2, (hHeld.2).trans ((hb2).mono (hHeld.2).size)⟩
 clear hK K
 try simp only [zz]
 refine st1 5 (by kernel_rfl) rfl (fun K hK => ?_)
 go_simp
 go_at_call 73
 refine (HC2.out _).mono ?_
 rintro e v5 ⟨rfl, hb5⟩
 try go_simp
 refine hK.out _ _ ?_ (fun hHeld => ?_)
 · exact ⟨(hHeld.1).old hb5, (hHeld.2).trans ((hb5).mono (hHeld.2).size)⟩
 clear hK K
 try simp only [zz]
 refine st1 8 (by kernel_rfl) rfl (fun K hK => ?_)
 go_simp
 go_at_call 73
 refine (HC3.out _).mono ?_
 rintro e v8 ⟨rfl, hb8⟩
 try go_simp
 refine hK.out _ _ ?_ (fun hHeld => ?_)
 · exact ⟨(hHeld.1).old hb8, (hHeld.2).trans ((hb8).mono (hHeld.2).size)⟩
 clear hK K
 try simp only [zz]
 refine st1 11 (by kernel_rfl) rfl (fun K hK => ?_)
 go_simp
 go_at_call 75
 refine (HZ.out _).mono ?_
 rintro e v11 ⟨rfl, hb11⟩
 try go_simp
 refine hK.out _ _ ?_ (fun hHeld => ?_)
 · exact ⟨(hHeld.1).old hb11, (hHeld.2).trans ((hb11).mono (hHeld.2).size)⟩
 clear hK K
 try simp only [zz]
 refine st1 12 (by kernel_rfl) rfl (fun K hK => ?_)
 go_simp
 go_at_call 74
 refine (when_any zb 6 _).mono ?_
 rintro e v12 ⟨rfl, rfl⟩
 try go_simp
 refine hK.out _ _ ?_ (fun hHeld => ?_)
 · exact hHeld
 clear hK K
 try simp only [zz]
 refine st1 13 (by kernel_rfl) rfl (fun K hK => ?_)
 go_simp
 refine hK.out _ _ ?_ (fun hHeld => ?_)
 · exact ⟨(hHeld.1).old ((Below.refl _ _).alloc (Nat.le_refl _) _), (hHeld.2).trans ((((Below.refl _ _).alloc (Nat.le_refl _) _)).mono (hHeld.2).size)⟩
 clear hK K
 try simp only [zz]
 refine st1 14 (by kernel_rfl) rfl (fun K hK => ?_)
 go_simp
 go_at_call 24
 refine (first_any _ _ _ [P1, P2, P3, whenI zb 6] _ ?_ rfl (by simp)).mono ?_
 · exact Rd.newT (t := 3)
 rintro e v99 ⟨rfl, rfl⟩
 try go_simp
 refine hK.out _ _ ?_ (fun hHeld => ?_)
 · exact hHeld
 clear hK K
 try simp only [zz]
 refine tk 15 2 ?_ rfl (by kernel_rfl) (fun _ _ _ h => h) (by kernel_rfl) ?_ hHeld ?_
 rotate_left
 · intro w1 hSw; (try dsimp only at hSw); go_simp <;> with_reducible rfl
 try simp only [zz]
 refine wpAnyH_done (by kernel_rfl) ?_ _
 go_wp2_with fail
 go_ret
 exact ⟨rfl, hHeld.2⟩
set_option maxRecDepth 100000 in
set_option maxHeartbeats 1000000 in
theorem squareR1_any (a b : Int) (w : World) (h1 : Gs a b) : Calls Tryz.prog 76 #[.agg #[.int .i64 a, .int .i64 b]] w fun e w' => e = .returned (.int .i64 (a * a + b * b)) ∧ Below w.heap.size w w' := by
 have h2 := h1
 have k0 : (a * a).natAbs ≤ 2500000000000000 := by rw [Int.natAbs_mul]; exact Nat.mul_le_mul h1.1 h2.1
 have k1 : (b * b).natAbs ≤ 2500000000000000 := by rw [Int.natAbs_mul]; exact Nat.mul_le_mul h1.2 h2.2
 have e0 : IntKind.i64.wrap (a * a) = a * a := IntWalk.i64_in _ (by omega)
 have e1 : IntKind.i64.wrap (b * b) = b * b := IntWalk.i64_in _ (by omega)
 have e2 : IntKind.i64.wrap (a * a + b * b) = a * a + b * b := IntWalk.i64_in _ (by omega)
 clear h1 h2 k0 k1
 go_enter Tryz.func76, Tryz.ntmps76
 go_upto_region 1 with fail
 refine genT (fun V => Row V (w.heap.size) 23 [.int .i64 a, .int .i64 b] ∧ Below w.heap.size w V) ⟨(rowAt _ _ (by first | rfl | simp only [World.size_alloc])), ((Below.refl _ _).alloc (by first | exact Nat.le_refl _ | (simp only [World.size_alloc]; omega)) _)⟩ ?_
 intro W1 s1
 have HS1 := Lib.hid s1
 clear s1
 have c0 := HS1.out.1.cell 0; have c1 := HS1.out.1.cell 1
 simp only [List.getElem?_cons_succ, List.getElem?_cons_zero] at c0 c1
 go_wp2_with fail
 go_ret
 exact ⟨rfl, HS1.out.2⟩
set_option maxRecDepth 100000 in
set_option maxHeartbeats 1000000 in
theorem squareR_any (a b c d x y : Int) (w : World) (h1 : Gs a b) : Calls Tryz.prog 14 #[.agg #[.int .i64 a, .int .i64 b, .int .i64 c, .int .i64 d, .int .i64 x, .int .i64 y]] w fun e w' => e = .returned (.int .i64 (a * a + b * b)) ∧ Below w.heap.size w w' := by
 have HA : Hid (∀ W, Calls Tryz.prog 76 #[.agg #[.int .i64 a, .int .i64 b]] W fun e w' => e = .returned (.int .i64 (a * a + b * b)) ∧ Below W.heap.size W w') := fun W => squareR1_any a b W h1
 clear h1
 go_enter Tryz.func14, Tryz.ntmps14
 go_upto_region 1 with fail
 refine genT (fun V => Row V (w.heap.size) 25 [.int .i64 a, .int .i64 b, .int .i64 c, .int .i64 d, .int .i64 x, .int .i64 y] ∧ Below w.heap.size w V) ⟨(rowAt _ _ (by first | rfl | simp only [World.size_alloc])), ((Below.refl _ _).alloc (by first | exact Nat.le_refl _ | (simp only [World.size_alloc]; omega)) _)⟩ ?_
 intro W1 s1
 have HS1 := Lib.hid s1
 clear s1
 have c0 := HS1.out.1.cell 0; have c1 := HS1.out.1.cell 1
 simp only [List.getElem?_cons_succ, List.getElem?_cons_zero] at c0 c1
 go_wp2_with (go_at_call 76; refine (HA.out _).mono ?_; rintro e w2 ⟨rfl, hb_w2⟩; have HS2 : Hid (Row w2 (w.heap.size) 25 [.int .i64 a, .int .i64 b, .int .i64 c, .int .i64 d, .int .i64 x, .int .i64 y] ∧ Below w.heap.size w w2) := ⟨(HS1.out.1).old hb_w2, (HS1.out.2).trans (hb_w2.mono (HS1.out.2).size)⟩; clear hb_w2)
 go_ret
 exact ⟨rfl, HS2.out.2⟩
set_option maxRecDepth 100000 in
set_option maxHeartbeats 1000000 in
theorem againstR_any (a b c d x y k l : Int) (w : World) (h1 : Gs k l) (h2 : Gs a b) : Calls Tryz.prog 78 #[.agg #[.int .i64 a, .int .i64 b, .int .i64 c, .int .i64 d, .int .i64 x, .int .i64 y], .agg #[.int .i64 k, .int .i64 l]] w fun e w' => e = .returned (.int .i64 (k * a + l * b)) ∧ Below w.heap.size w w' := by
 have k0 : (k * a).natAbs ≤ 2500000000000000 := by rw [Int.natAbs_mul]; exact Nat.mul_le_mul h1.1 h2.1
 have k1 : (l * b).natAbs ≤ 2500000000000000 := by rw [Int.natAbs_mul]; exact Nat.mul_le_mul h1.2 h2.2
 have e0 : IntKind.i64.wrap (k * a) = k * a := IntWalk.i64_in _ (by omega)
 have e1 : IntKind.i64.wrap (l * b) = l * b := IntWalk.i64_in _ (by omega)
 have e2 : IntKind.i64.wrap (k * a + l * b) = k * a + l * b := IntWalk.i64_in _ (by omega)
 clear h1 h2 k0 k1
 go_enter Tryz.func78, Tryz.ntmps78
 go_upto_region 1 with fail
 refine genT (fun V => Row V (w.heap.size) 25 [.int .i64 a, .int .i64 b, .int .i64 c, .int .i64 d, .int .i64 x, .int .i64 y] ∧ Row V (w.heap.size + 1) 23 [.int .i64 k, .int .i64 l] ∧ Below w.heap.size w V) ⟨(Row.alloc (rowAt _ _ (by first | rfl | simp only [World.size_alloc])) _), (rowAt _ _ (by first | rfl | simp only [World.size_alloc])), (((Below.refl _ _).alloc (by first | exact Nat.le_refl _ | (simp only [World.size_alloc]; omega)) _).alloc (by first | exact Nat.le_refl _ | (simp only [World.size_alloc]; omega)) _)⟩ ?_
 intro W1 s1
 have HS1 := Lib.hid s1
 clear s1
 have c0 := HS1.out.1.cell 0; have c1 := HS1.out.1.cell 1; have d0 := HS1.out.2.1.cell 0; have d1 := HS1.out.2.1.cell 1
 simp only [List.getElem?_cons_succ, List.getElem?_cons_zero] at c0 c1 d0 d1
 go_wp2_with fail
 go_ret
 exact ⟨rfl, HS1.out.2.2⟩
set_option maxRecDepth 100000 in
set_option maxHeartbeats 1000000 in
theorem lowR_any (a b c d x y : Int) (w : World) (h1 : Gs c d) (h2 : Gs a b) : Calls Tryz.prog 16 #[.agg #[.int .i64 a, .int .i64 b, .int .i64 c, .int .i64 d, .int .i64 x, .int .i64 y]] w fun e w' => e = .returned (.int .i64 (c * a + d * b)) ∧ Below w.heap.size w w' := by
 have HA : Hid (∀ W, Calls Tryz.prog 78 #[.agg #[.int .i64 a, .int .i64 b, .int .i64 c, .int .i64 d, .int .i64 x, .int .i64 y], .agg #[.int .i64 c, .int .i64 d]] W fun e w' => e = .returned (.int .i64 (c * a + d * b)) ∧ Below W.heap.size W w') := fun W => againstR_any a b c d x y c d W h1 h2
 clear h1 h2
 go_enter Tryz.func16, Tryz.ntmps16
 go_upto_region 1 with fail
 refine genT (fun V => Row V (w.heap.size) 25 [.int .i64 a, .int .i64 b, .int .i64 c, .int .i64 d, .int .i64 x, .int .i64 y] ∧ Below w.heap.size w V) ⟨(rowAt _ _ (by first | rfl | simp only [World.size_alloc])), ((Below.refl _ _).alloc (by first | exact Nat.le_refl _ | (simp only [World.size_alloc]; omega)) _)⟩ ?_
 intro W1 s1
 have HS1 := Lib.hid s1
 clear s1
 have c0 := HS1.out.1.cell 2; have c1 := HS1.out.1.cell 3
 simp only [List.getElem?_cons_succ, List.getElem?_cons_zero] at c0 c1
 go_wp2_with (first | (refine wpList_load_row rfl 25 _ rfl (w.heap.size) rfl 25 #[.int .i64 a, .int .i64 b, .int .i64 c, .int .i64 d, .int .i64 x, .int .i64 y] (0, 0) _ HS1.out.1 Tryz.underlying25 rfl ?_ ?_; (kernel_rfl)) | (go_at_call 78; refine (HA.out _).mono ?_; rintro e w2 ⟨rfl, hb_w2⟩; have HS2 : Hid (Row w2 (w.heap.size) 25 [.int .i64 a, .int .i64 b, .int .i64 c, .int .i64 d, .int .i64 x, .int .i64 y] ∧ Below w.heap.size w w2) := ⟨(HS1.out.1).old hb_w2, (HS1.out.2).trans (hb_w2.mono (HS1.out.2).size)⟩; clear hb_w2))
 go_ret
 exact ⟨rfl, HS2.out.2⟩
set_option maxRecDepth 100000 in
set_option maxHeartbeats 1000000 in
theorem highR_any (a b c d x y : Int) (w : World) (h1 : Gs x y) (h2 : Gs a b) : Calls Tryz.prog 17 #[.agg #[.int .i64 a, .int .i64 b, .int .i64 c, .int .i64 d, .int .i64 x, .int .i64 y]] w fun e w' => e = .returned (.int .i64 (x * a + y * b)) ∧ Below w.heap.size w w' := by
 have HA : Hid (∀ W, Calls Tryz.prog 78 #[.agg #[.int .i64 a, .int .i64 b, .int .i64 c, .int .i64 d, .int .i64 x, .int .i64 y], .agg #[.int .i64 x, .int .i64 y]] W fun e w' => e = .returned (.int .i64 (x * a + y * b)) ∧ Below W.heap.size W w') := fun W => againstR_any a b c d x y x y W h1 h2
 clear h1 h2
 go_enter Tryz.func17, Tryz.ntmps17
 go_upto_region 1 with fail
 refine genT (fun V => Row V (w.heap.size) 25 [.int .i64 a, .int .i64 b, .int .i64 c, .int .i64 d, .int .i64 x, .int .i64 y] ∧ Below w.heap.size w V) ⟨(rowAt _ _ (by first | rfl | simp only [World.size_alloc])), ((Below.refl _ _).alloc (by first | exact Nat.le_refl _ | (simp only [World.size_alloc]; omega)) _)⟩ ?_
 intro W1 s1
 have HS1 := Lib.hid s1
 clear s1
 have c0 := HS1.out.1.cell 4; have c1 := HS1.out.1.cell 5
 simp only [List.getElem?_cons_succ, List.getElem?_cons_zero] at c0 c1
 go_wp2_with (first | (refine wpList_load_row rfl 25 _ rfl (w.heap.size) rfl 25 #[.int .i64 a, .int .i64 b, .int .i64 c, .int .i64 d, .int .i64 x, .int .i64 y] (0, 0) _ HS1.out.1 Tryz.underlying25 rfl ?_ ?_; (kernel_rfl)) | (go_at_call 78; refine (HA.out _).mono ?_; rintro e w2 ⟨rfl, hb_w2⟩; have HS2 : Hid (Row w2 (w.heap.size) 25 [.int .i64 a, .int .i64 b, .int .i64 c, .int .i64 d, .int .i64 x, .int .i64 y] ∧ Below w.heap.size w w2) := ⟨(HS1.out.1).old hb_w2, (HS1.out.2).trans (hb_w2.mono (HS1.out.2).size)⟩; clear hb_w2))
 go_ret
 exact ⟨rfl, HS2.out.2⟩
set_option maxRecDepth 100000 in
set_option maxHeartbeats 1000000 in
theorem differenceR_any (a b c d x y : Int) (w : World) (h1 : Gs a b) (h2 : Gs c d) (h3 : Gs x y) : Calls Tryz.prog 79 #[.agg #[.int .i64 a, .int .i64 b, .int .i64 c, .int .i64 d, .int .i64 x, .int .i64 y]] w fun e w' => e = .returned (.int .i64 (c * a + d * b - (x * a + y * b))) ∧ Below w.heap.size w w' := by
 have k1 := h2.along h1; have k2 := h3.along h1
 obtain ⟨N0, hN0⟩ : ∃ N0, N0 = c * a + d * b := ⟨_, rfl⟩
 obtain ⟨N1, hN1⟩ : ∃ N1, N1 = x * a + y * b := ⟨_, rfl⟩
 have HL : Hid (∀ W, Calls Tryz.prog 16 #[.agg #[.int .i64 a, .int .i64 b, .int .i64 c, .int .i64 d, .int .i64 x, .int .i64 y]] W fun e w' => e = .returned (.int .i64 N0) ∧ Below W.heap.size W w') := fun W => by rw [hN0]; exact lowR_any a b c d x y W h2 h1
 have HH : Hid (∀ W, Calls Tryz.prog 17 #[.agg #[.int .i64 a, .int .i64 b, .int .i64 c, .int .i64 d, .int .i64 x, .int .i64 y]] W fun e w' => e = .returned (.int .i64 N1) ∧ Below W.heap.size W w') := fun W => by rw [hN1]; exact highR_any a b c d x y W h3 h1
 rw [← hN0] at k1 ⊢
 rw [← hN1] at k2 ⊢
 have e1 : IntKind.i64.wrap (N0 - N1) = N0 - N1 := IntWalk.i64_in _ (by omega)
 clear h1 h2 h3 k1 k2 hN0 hN1
 go_enter Tryz.func79, Tryz.ntmps79
 go_upto_region 1 with fail
 refine genT (fun V => Row V (w.heap.size) 25 [.int .i64 a, .int .i64 b, .int .i64 c, .int .i64 d, .int .i64 x, .int .i64 y] ∧ Below w.heap.size w V) ⟨(rowAt _ _ (by first | rfl | simp only [World.size_alloc])), ((Below.refl _ _).alloc (by first | exact Nat.le_refl _ | (simp only [World.size_alloc]; omega)) _)⟩ ?_
 intro W1 s1
 have HS1 := Lib.hid s1
 clear s1
 refine wp_region_held_drew (S := fun V => Row V (w.heap.size) 25 [.int .i64 a, .int .i64 b, .int .i64 c, .int .i64 d, .int .i64 x, .int .i64 y] ∧ Below w.heap.size w V) (by kernel_rfl) ?_ (fun hHeld => ?_)
 · exact ⟨(HS1.out.1).drew, (HS1.out.2).drew⟩
 refine tk 0 3 (.agg #[.int .i64 a, .int .i64 b, .int .i64 c, .int .i64 d, .int .i64 x, .int .i64 y]) rfl (by kernel_rfl) (fun _ _ _ h => h) (by kernel_rfl) (fun V hV => ex_rowT 25 _ rfl (w.heap.size) rfl 25 [.int .i64 a, .int .i64 b, .int .i64 c, .int .i64 d, .int .i64 x, .int .i64 y] _ Tryz.underlying25 rfl (by kernel_rfl) (hV.1)) hHeld ?_
 try simp only [zz]
 refine tk 2 5 (.agg #[.int .i64 a, .int .i64 b, .int .i64 c, .int .i64 d, .int .i64 x, .int .i64 y]) rfl (by kernel_rfl) (fun _ _ _ h => h) (by kernel_rfl) (fun V hV => ex_rowT 25 _ rfl (w.heap.size) rfl 25 [.int .i64 a, .int .i64 b, .int .i64 c, .int .i64 d, .int .i64 x, .int .i64 y] _ Tryz.underlying25 rfl (by kernel_rfl) (hV.1)) hHeld ?_
 try simp only [zz]
 refine st1 1 (by kernel_rfl) rfl (fun K hK => ?_)
 go_simp
 go_at_call 16
 refine (HL.out _).mono ?_
 rintro e v1 ⟨rfl, hb1⟩
 try go_simp
 refine hK.out _ _ ?_ (fun hHeld => ?_)
 · exact ⟨(hHeld.1).old hb1, (hHeld.2).trans ((hb1).mono (hHeld.2).size)⟩
 clear hK K
 try simp only [zz]
 refine st1 3 (by kernel_rfl) rfl (fun K hK => ?_)
 go_simp
 go_at_call 17
 refine (HH.out _).mono ?_
 rintro e v3 ⟨rfl, hb3⟩
 try go_simp
 refine hK.out _ _ ?_ (fun hHeld => ?_)
 · exact ⟨(hHeld.1).old hb3, (hHeld.2).trans ((hb3).mono (hHeld.2).size)⟩
 clear hK K
 try simp only [zz]
 refine tk 4 7 ?_ rfl (by kernel_rfl) (fun _ _ _ h => h) (by kernel_rfl) ?_ hHeld ?_
 rotate_left
 · intro w1 hSw; (try dsimp only at hSw); go_simp <;> with_reducible rfl
 try simp only [zz]
 refine tk 5 2 ?_ rfl (by kernel_rfl) (fun _ _ _ h => h) (by kernel_rfl) ?_ hHeld ?_
 rotate_left
 · intro w1 hSw; (try dsimp only at hSw); go_simp <;> with_reducible rfl
 try simp only [zz]
 refine wpAnyH_done (by kernel_rfl) ?_ _
 go_wp2_with fail
 go_ret
 exact ⟨rfl, hHeld.2⟩
set_option maxRecDepth 100000 in
set_option maxHeartbeats 1000000 in
theorem totalR_any (a b c d x y : Int) (w : World) (h1 : Gs a b) (h2 : Gs c d) (h3 : Gs x y) : Calls Tryz.prog 19 #[.agg #[.int .i64 a, .int .i64 b, .int .i64 c, .int .i64 d, .int .i64 x, .int .i64 y]] w fun e w' => e = .returned (.int .i64 (c * a + d * b + (x * a + y * b))) ∧ Below w.heap.size w w' := by
 have k1 := h2.along h1; have k2 := h3.along h1
 obtain ⟨N0, hN0⟩ : ∃ N0, N0 = c * a + d * b := ⟨_, rfl⟩
 obtain ⟨N1, hN1⟩ : ∃ N1, N1 = x * a + y * b := ⟨_, rfl⟩
 have HL : Hid (∀ W, Calls Tryz.prog 16 #[.agg #[.int .i64 a, .int .i64 b, .int .i64 c, .int .i64 d, .int .i64 x, .int .i64 y]] W fun e w' => e = .returned (.int .i64 N0) ∧ Below W.heap.size W w') := fun W => by rw [hN0]; exact lowR_any a b c d x y W h2 h1
 have HH : Hid (∀ W, Calls Tryz.prog 17 #[.agg #[.int .i64 a, .int .i64 b, .int .i64 c, .int .i64 d, .int .i64 x, .int .i64 y]] W fun e w' => e = .returned (.int .i64 N1) ∧ Below W.heap.size W w') := fun W => by rw [hN1]; exact highR_any a b c d x y W h3 h1
 rw [← hN0] at k1 ⊢
 rw [← hN1] at k2 ⊢
 have e1 : IntKind.i64.wrap (N0 + N1) = N0 + N1 := IntWalk.i64_in _ (by omega)
 clear h1 h2 h3 k1 k2 hN0 hN1
 go_enter Tryz.func19, Tryz.ntmps19
 go_upto_region 1 with fail
 refine genT (fun V => Row V (w.heap.size) 25 [.int .i64 a, .int .i64 b, .int .i64 c, .int .i64 d, .int .i64 x, .int .i64 y] ∧ Below w.heap.size w V) ⟨(rowAt _ _ (by first | rfl | simp only [World.size_alloc])), ((Below.refl _ _).alloc (by first | exact Nat.le_refl _ | (simp only [World.size_alloc]; omega)) _)⟩ ?_
 intro W1 s1
 have HS1 := Lib.hid s1
 clear s1
 refine wp_region_held_drew (S := fun V => Row V (w.heap.size) 25 [.int .i64 a, .int .i64 b, .int .i64 c, .int .i64 d, .int .i64 x, .int .i64 y] ∧ Below w.heap.size w V) (by kernel_rfl) ?_ (fun hHeld => ?_)
 · exact ⟨(HS1.out.1).drew, (HS1.out.2).drew⟩
 refine tk 0 3 (.agg #[.int .i64 a, .int .i64 b, .int .i64 c, .int .i64 d, .int .i64 x, .int .i64 y]) rfl (by kernel_rfl) (fun _ _ _ h => h) (by kernel_rfl) (fun V hV => ex_rowT 25 _ rfl (w.heap.size) rfl 25 [.int .i64 a, .int .i64 b, .int .i64 c, .int .i64 d, .int .i64 x, .int .i64 y] _ Tryz.underlying25 rfl (by kernel_rfl) (hV.1)) hHeld ?_
 try simp only [zz]
 refine tk 2 5 (.agg #[.int .i64 a, .int .i64 b, .int .i64 c, .int .i64 d, .int .i64 x, .int .i64 y]) rfl (by kernel_rfl) (fun _ _ _ h => h) (by kernel_rfl) (fun V hV => ex_rowT 25 _ rfl (w.heap.size) rfl 25 [.int .i64 a, .int .i64 b, .int .i64 c, .int .i64 d, .int .i64 x, .int .i64 y] _ Tryz.underlying25 rfl (by kernel_rfl) (hV.1)) hHeld ?_
 try simp only [zz]
 refine st1 1 (by kernel_rfl) rfl (fun K hK => ?_)
 go_simp
 go_at_call 16
 refine (HL.out _).mono ?_
 rintro e v1 ⟨rfl, hb1⟩
 try go_simp
 refine hK.out _ _ ?_ (fun hHeld => ?_)
 · exact ⟨(hHeld.1).old hb1, (hHeld.2).trans ((hb1).mono (hHeld.2).size)⟩
 clear hK K
 try simp only [zz]
 refine st1 3 (by kernel_rfl) rfl (fun K hK => ?_)
 go_simp
 go_at_call 17
 refine (HH.out _).mono ?_
 rintro e v3 ⟨rfl, hb3⟩
 try go_simp
 refine hK.out _ _ ?_ (fun hHeld => ?_)
 · exact ⟨(hHeld.1).old hb3, (hHeld.2).trans ((hb3).mono (hHeld.2).size)⟩
 clear hK K
 try simp only [zz]
 refine tk 4 7 ?_ rfl (by kernel_rfl) (fun _ _ _ h => h) (by kernel_rfl) ?_ hHeld ?_
 rotate_left
 · intro w1 hSw; (try dsimp only at hSw); go_simp <;> with_reducible rfl
 try simp only [zz]
 refine tk 5 2 ?_ rfl (by kernel_rfl) (fun _ _ _ h => h) (by kernel_rfl) ?_ hHeld ?_
 rotate_left
 · intro w1 hSw; (try dsimp only at hSw); go_simp <;> with_reducible rfl
 try simp only [zz]
 refine wpAnyH_done (by kernel_rfl) ?_ _
 go_wp2_with fail
 go_ret
 exact ⟨rfl, hHeld.2⟩
set_option maxRecDepth 100000 in
set_option maxHeartbeats 1000000 in
theorem needleR_any (a b c d x y : Int) (w : World) (hg : SigG a b c d x y) : Calls Tryz.prog 18 #[.agg #[.int .i64 a, .int .i64 b, .int .i64 c, .int .i64 d, .int .i64 x, .int .i64 y]] w fun e w' => e = .returned (.agg (lowV (c * a + d * b - (x * a + y * b)) (a * a + b * b)).toArray) ∧ Below w.heap.size w w' := by
 have k1 := hg.g2.along hg.g1; have k2 := hg.g3.along hg.g1; have k3 := hg.pos
 have HD : Hid (∀ W, Calls Tryz.prog 79 #[.agg #[.int .i64 a, .int .i64 b, .int .i64 c, .int .i64 d, .int .i64 x, .int .i64 y]] W fun e w' => e = .returned (.int .i64 (c * a + d * b - (x * a + y * b))) ∧ Below W.heap.size W w') := fun W => differenceR_any a b c d x y W hg.g1 hg.g2 hg.g3
 have HQ : Hid (∀ W, Calls Tryz.prog 14 #[.agg #[.int .i64 a, .int .i64 b, .int .i64 c, .int .i64 d, .int .i64 x, .int .i64 y]] W fun e w' => e = .returned (.int .i64 (a * a + b * b)) ∧ Below W.heap.size W w') := fun W => squareR_any a b c d x y W hg.g1
 obtain ⟨N, hN⟩ : ∃ N, N = c * a + d * b - (x * a + y * b) := ⟨_, rfl⟩
 obtain ⟨Q, hQ⟩ : ∃ Q, Q = a * a + b * b := ⟨_, rfl⟩
 have hbN : Bd N := by unfold Bd; omega
 rw [← hN] at HD ⊢
 rw [← hQ] at HQ k3 ⊢
 obtain ⟨p, hp⟩ : ∃ p, p = N.tdiv (gcdI N Q) := ⟨_, rfl⟩
 obtain ⟨q, hq⟩ : ∃ q, q = Q / gcdI N Q := ⟨_, rfl⟩
 have HLO : Hid (∀ W, Calls Tryz.prog 15 #[.int .i64 N, .int .i64 Q] W fun e w' => e = .returned (.agg #[.int .i64 p, .int .i64 q]) ∧ Below W.heap.size W w') := fun W => by rw [hp, hq]; exact lowest_any N Q W hbN k3
 have hlow : lowV N Q = [.int .i64 p, .int .i64 q] := by unfold lowV; rw [← hp, ← hq]
 rw [hlow]
 clear hg k1 k2 k3 hN hQ hbN hp hq hlow
 go_enter Tryz.func18, Tryz.ntmps18
 go_upto_region 1 with fail
 refine genT (fun V => Row V (w.heap.size) 25 [.int .i64 a, .int .i64 b, .int .i64 c, .int .i64 d, .int .i64 x, .int .i64 y] ∧ Row V (w.heap.size + 1) 28 [.int .i64 0, .int .i64 0] ∧ Below w.heap.size w V) ⟨(Row.alloc (rowAt _ _ (by first | rfl | simp only [World.size_alloc])) _), (rowAt _ _ (by first | rfl | simp only [World.size_alloc])), (((Below.refl _ _).alloc (by first | exact Nat.le_refl _ | (simp only [World.size_alloc]; omega)) _).alloc (by first | exact Nat.le_refl _ | (simp only [World.size_alloc]; omega)) _)⟩ ?_
 intro W1 s1
 have HS1 : Hid (Row W1 (w.heap.size) 25 [.int .i64 a, .int .i64 b, .int .i64 c, .int .i64 d, .int .i64 x, .int .i64 y] ∧ RowN W1 (w.heap.size + 1) 28 2 ∧ Below w.heap.size w W1) := ⟨s1.1, ⟨_, rfl, s1.2.1⟩, s1.2.2⟩
 clear s1
 refine wp_region_held_drew (S := fun V => Row V (w.heap.size) 25 [.int .i64 a, .int .i64 b, .int .i64 c, .int .i64 d, .int .i64 x, .int .i64 y] ∧ RowN V (w.heap.size + 1) 28 2 ∧ Below w.heap.size w V) (by kernel_rfl) ?_ (fun hHeld => ?_)
 · exact ⟨(HS1.out.1).drew, (HS1.out.2.1).drew, (HS1.out.2.2).drew⟩
 refine tk 0 3 (.agg #[.int .i64 a, .int .i64 b, .int .i64 c, .int .i64 d, .int .i64 x, .int .i64 y]) rfl (by kernel_rfl) (fun _ _ _ h => h) (by kernel_rfl) (fun V hV => ex_rowT 25 _ rfl (w.heap.size) rfl 25 [.int .i64 a, .int .i64 b, .int .i64 c, .int .i64 d, .int .i64 x, .int .i64 y] _ Tryz.underlying25 rfl (by kernel_rfl) (hV.1)) hHeld ?_
 try simp only [zz]
 refine tk 2 5 (.agg #[.int .i64 a, .int .i64 b, .int .i64 c, .int .i64 d, .int .i64 x, .int .i64 y]) rfl (by kernel_rfl) (fun _ _ _ h => h) (by kernel_rfl) (fun V hV => ex_rowT 25 _ rfl (w.heap.size) rfl 25 [.int .i64 a, .int .i64 b, .int .i64 c, .int .i64 d, .int .i64 x, .int .i64 y] _ Tryz.underlying25 rfl (by kernel_rfl) (hV.1)) hHeld ?_
 try simp only [zz]
 refine st1 1 (by kernel_rfl) rfl (fun K hK => ?_)
 go_simp
 go_at_call 79
 refine (HD.out _).mono ?_
 rintro e v1 ⟨rfl, hb1⟩
 try go_simp
 refine hK.out _ _ ?_ (fun hHeld => ?_)
 · exact ⟨(hHeld.1).old hb1, (hHeld.2.1).old hb1, (hHeld.2.2).trans ((hb1).mono (hHeld.2.2).size)⟩
 clear hK K
 try simp only [zz]
 refine st1 3 (by kernel_rfl) rfl (fun K hK => ?_)
 go_simp
 go_at_call 14
 refine (HQ.out _).mono ?_
 rintro e v3 ⟨rfl, hb3⟩
 try go_simp
 refine hK.out _ _ ?_ (fun hHeld => ?_)
 · exact ⟨(hHeld.1).old hb3, (hHeld.2.1).old hb3, (hHeld.2.2).trans ((hb3).mono (hHeld.2.2).size)⟩
 clear hK K
 try simp only [zz]
 refine st1 4 (by kernel_rfl) rfl (fun K hK => ?_)
 go_simp
 go_at_call 15
 refine (HLO.out _).mono ?_
 rintro e v4 ⟨rfl, hb4⟩
 try go_simp
 refine hK.out _ _ ?_ (fun hHeld => ?_)
 · exact ⟨(hHeld.1).old hb4, (hHeld.2.1).old hb4, (hHeld.2.2).trans ((hb4).mono (hHeld.2.2).size)⟩
 clear hK K
 try simp only [zz]
 refine st1 5 (by kernel_rfl) rfl (fun K hK => ?_)
 obtain ⟨vs, hvl, hvr⟩ := (hHeld.2.1)
 have hLast := hHeld
 refine step_store_row rfl 28 _ _ rfl (w.heap.size + 1) [.int .i64 p, .int .i64 q] rfl rfl 28 vs hvr (by kernel_rfl) hvl (by simp [Value.oneCell']) ?_
 refine hK.out _ _ ?_ (fun hHeld => ?_)
 · exact ⟨(hHeld.1).farRow (by omega) _, ⟨_, rfl, hvr.setRow _⟩, Below.setRow (hHeld.2.2) (by omega) _⟩
 clear hK K
 try simp only [zz]
 refine wpAnyH_done (by kernel_rfl) ?_ _
 go_wp2_with fail
 refine bodyPost_ret (results_rowA rfl _ _ (w.heap.size + 1) 28 #[.int .i64 p, .int .i64 q] (0, 0) _ rfl (hvr.setRow [.int .i64 p, .int .i64 q]) Tryz.underlying28 rfl (by kernel_rfl)) rfl ⟨rfl, Below.setRow hLast.2.2 (by omega) _⟩
theorem floor_eq {n d : Int} (hd : 0 < d) : (if n < n.tdiv d * d then n.tdiv d - 1 else n.tdiv d) = n / d := by
 by_cases hn : 0 ≤ n
 · have h1 : n.tdiv d = n / d := Int.tdiv_eq_ediv_of_nonneg hn
   have h2 : n / d * d ≤ n := Int.ediv_mul_le n (by omega)
   rw [h1, if_neg (by omega)]
 · have hm : 0 ≤ -n := by omega
   have h1 : n.tdiv d = -((-n) / d) := by
    have h := Int.neg_tdiv n d
    rw [← Int.tdiv_eq_ediv_of_nonneg hm, h, Int.neg_neg]
   obtain ⟨q, hq⟩ : ∃ q, q = (-n) / d := ⟨_, rfl⟩
   obtain ⟨r, hr⟩ : ∃ r, r = (-n) % d := ⟨_, rfl⟩
   have h3 : d * q + r = -n := by rw [hq, hr]; exact Int.mul_ediv_add_emod (-n) d
   have h4 : 0 ≤ r := by rw [hr]; exact Int.emod_nonneg _ (by omega)
   have h5 : r < d := by rw [hr]; exact Int.emod_lt_of_pos _ hd
   rw [h1, ← hq]
   have h6 : -q * d = -(d * q) := by rw [Int.neg_mul, Int.mul_comm]
   rw [h6]
   by_cases hz : r = 0
   · rw [if_neg (by omega)]
     have h7 : n = (-q) * d := by rw [h6]; omega
     rw [h7, Int.mul_ediv_cancel _ (by omega)]
   · rw [if_pos (by omega)]
     have h7 : n = (d - r) + (-q - 1) * d := by
      have : (-q - 1) * d = -(d * q) - d := by rw [Int.sub_mul, h6, Int.one_mul]
      omega
     have h8 : n / d = (d - r) / d + (-q - 1) := by
      conv => lhs; rw [h7]
      exact Int.add_mul_ediv_right _ _ (by omega)
     rw [h8, Int.ediv_eq_zero_of_lt (by omega) (by omega)]
     omega
set_option maxRecDepth 100000 in
set_option maxHeartbeats 1000000 in
theorem floor_any (n d : Int) (w : World) (hn : n.natAbs ≤ 1000000000000000000) (hd : 0 < d ∧ d ≤ 1000000000000000000) : Calls Tryz.prog 161 #[.int .i64 n, .int .i64 d] w fun e w' => e = .returned (.int .i64 (n / d)) ∧ w = w' := by
 have hf := floor_eq (n := n) hd.1
 obtain ⟨q, hq⟩ : ∃ q, q = n.tdiv d := ⟨_, rfl⟩
 rw [← hq] at hf
 have hqb : q.natAbs ≤ n.natAbs := by rw [hq, Int.natAbs_tdiv]; exact Nat.div_le_self _ _
 have hqd : (q * d).natAbs ≤ n.natAbs := by
  rw [hq, Int.natAbs_mul, Int.natAbs_tdiv]
  exact Nat.div_mul_le_self _ _
 have hne : ¬ d = 0 := by omega
 have hne2 : (d == 0) = false := by simpa using hne
 have e1 : IntKind.i64.wrap (n.tdiv d) = q := by rw [← hq]; exact IntWalk.i64_in _ (by omega)
 have e2 : IntKind.i64.wrap (q * d) = q * d := IntWalk.i64_in _ (by omega)
 have e3 : IntKind.i64.wrap (q - 1) = q - 1 := IntWalk.i64_in _ (by omega)
 have HF := Lib.hid hf
 by_cases hc : n < q * d
 · have HR : Hid (n / d = q - 1) := by unfold Hid; rw [← hf, if_pos hc]
   clear hf hq hqb hqd hn hd
   go_enter Tryz.func161, Tryz.ntmps161
   go_wp2_with fail
   go_ret
   exact ⟨by rw [HR.out]; rfl, rfl⟩
 · have HR : Hid (n / d = q) := by unfold Hid; rw [← hf, if_neg hc]
   clear hf hq hqb hqd hn hd
   go_enter Tryz.func161, Tryz.ntmps161
   go_wp2_with fail
   go_ret
   exact ⟨by rw [HR.out]; rfl, rfl⟩
set_option maxRecDepth 100000 in
set_option maxHeartbeats 1000000 in
theorem nearest_any (n d : Int) (w : World) (hn : n.natAbs ≤ 100000000000000000) (hd : 0 < d ∧ d ≤ 100000000000000000) : Calls Tryz.prog 178 #[.int .i64 n, .int .i64 d] w fun e w' => e = .returned (.int .i64 ((2 * n + d) / (2 * d))) ∧ w = w' := by
 have e1 : IntKind.i64.wrap (2 * n) = 2 * n := IntWalk.i64_in _ (by omega)
 have e2 : IntKind.i64.wrap (2 * n + d) = 2 * n + d := IntWalk.i64_in _ (by omega)
 have e3 : IntKind.i64.wrap (2 * d) = 2 * d := IntWalk.i64_in _ (by omega)
 have HF : Hid (∀ W, Calls Tryz.prog 161 #[.int .i64 (2 * n + d), .int .i64 (2 * d)] W fun e w' => e = .returned (.int .i64 ((2 * n + d) / (2 * d))) ∧ W = w') := fun W => floor_any _ _ W (by omega) (by omega)
 clear hn hd
 go_enter Tryz.func178, Tryz.ntmps178
 go_wp2_with (go_at_call 161; refine (HF.out _).mono ?_; rintro e w2 ⟨rfl, rfl⟩)
 go_ret
 exact ⟨rfl, rfl⟩
set_option maxRecDepth 100000 in
set_option maxHeartbeats 1000000 in
theorem floorQ_any (n d : Int) (w : World) (hn : n.natAbs ≤ 1000000000000000000) (hd : 0 < d ∧ d ≤ 1000000000000000000) : Calls Tryz.prog 115 #[.agg #[.int .i64 n, .int .i64 d]] w fun e w' => e = .returned (.int .i64 (n / d)) ∧ Below w.heap.size w w' := by
 have HF : Hid (∀ W, Calls Tryz.prog 161 #[.int .i64 n, .int .i64 d] W fun e w' => e = .returned (.int .i64 (n / d)) ∧ W = w') := fun W => floor_any _ _ W hn hd
 clear hn hd
 go_enter Tryz.func115, Tryz.ntmps115
 go_upto_region 1 with fail
 refine genT (fun V => Row V (w.heap.size) 124 [.int .i64 n, .int .i64 d] ∧ Below w.heap.size w V) ⟨(rowAt _ _ (by first | rfl | simp only [World.size_alloc])), ((Below.refl _ _).alloc (by first | exact Nat.le_refl _ | (simp only [World.size_alloc]; omega)) _)⟩ ?_
 intro W1 s1
 have HS1 := Lib.hid s1
 clear s1
 have c0 := HS1.out.1.cell 0; have c1 := HS1.out.1.cell 1
 simp only [List.getElem?_cons_succ, List.getElem?_cons_zero] at c0 c1
 go_wp2_with (go_at_call 161; refine (HF.out _).mono ?_; rintro e w2 ⟨rfl, rfl⟩)
 go_ret
 exact ⟨rfl, HS1.out.2⟩
set_option maxRecDepth 100000 in
set_option maxHeartbeats 1000000 in
theorem nearestQ_any (n d : Int) (w : World) (hn : n.natAbs ≤ 100000000000000000) (hd : 0 < d ∧ d ≤ 100000000000000000) : Calls Tryz.prog 148 #[.agg #[.int .i64 n, .int .i64 d]] w fun e w' => e = .returned (.int .i64 ((2 * n + d) / (2 * d))) ∧ Below w.heap.size w w' := by
 have HF : Hid (∀ W, Calls Tryz.prog 178 #[.int .i64 n, .int .i64 d] W fun e w' => e = .returned (.int .i64 ((2 * n + d) / (2 * d))) ∧ W = w') := fun W => nearest_any _ _ W hn hd
 clear hn hd
 go_enter Tryz.func148, Tryz.ntmps148
 go_upto_region 1 with fail
 refine genT (fun V => Row V (w.heap.size) 124 [.int .i64 n, .int .i64 d] ∧ Below w.heap.size w V) ⟨(rowAt _ _ (by first | rfl | simp only [World.size_alloc])), ((Below.refl _ _).alloc (by first | exact Nat.le_refl _ | (simp only [World.size_alloc]; omega)) _)⟩ ?_
 intro W1 s1
 have HS1 := Lib.hid s1
 clear s1
 have c0 := HS1.out.1.cell 0; have c1 := HS1.out.1.cell 1
 simp only [List.getElem?_cons_succ, List.getElem?_cons_zero] at c0 c1
 go_wp2_with (go_at_call 178; refine (HF.out _).mono ?_; rintro e w2 ⟨rfl, rfl⟩)
 go_ret
 exact ⟨rfl, HS1.out.2⟩
set_option maxRecDepth 100000 in
set_option maxHeartbeats 1000000 in
theorem timesQ_any (n d m p : Int) (w : World) (h1 : (n * m).natAbs ≤ 9000000000000000000) (h2 : (d * p).natAbs ≤ 9000000000000000000) : Calls Tryz.prog 145 #[.agg #[.int .i64 n, .int .i64 d], .agg #[.int .i64 m, .int .i64 p]] w fun e w' => e = .returned (.agg #[.int .i64 (n * m), .int .i64 (d * p)]) ∧ Below w.heap.size w w' := by
 have e1 : IntKind.i64.wrap (n * m) = n * m := IntWalk.i64_in _ (by omega)
 have e2 : IntKind.i64.wrap (d * p) = d * p := IntWalk.i64_in _ (by omega)
 clear h1 h2
 go_enter Tryz.func145, Tryz.ntmps145
 go_upto_region 1 with fail
 refine genT (fun V => Row V (w.heap.size) 124 [.int .i64 n, .int .i64 d] ∧ Row V (w.heap.size + 1) 124 [.int .i64 m, .int .i64 p] ∧ Row V (w.heap.size + 1 + 1) 124 [.int .i64 0, .int .i64 0] ∧ Below w.heap.size w V) ⟨(Row.alloc (Row.alloc (rowAt _ _ (by first | rfl | simp only [World.size_alloc])) _) _), (Row.alloc (rowAt _ _ (by first | rfl | simp only [World.size_alloc])) _), (rowAt _ _ (by first | rfl | simp only [World.size_alloc])), ((((Below.refl _ _).alloc (by first | exact Nat.le_refl _ | (simp only [World.size_alloc]; omega)) _).alloc (by first | exact Nat.le_refl _ | (simp only [World.size_alloc]; omega)) _).alloc (by first | exact Nat.le_refl _ | (simp only [World.size_alloc]; omega)) _)⟩ ?_
 intro W1 s1
 have HS1 := Lib.hid s1
 clear s1
 have c0 := HS1.out.1.cell 0; have c1 := HS1.out.1.cell 1; have d0 := HS1.out.2.1.cell 0; have d1 := HS1.out.2.1.cell 1
 simp only [List.getElem?_cons_succ, List.getElem?_cons_zero] at c0 c1 d0 d1
 go_wp2_with (refine wpList_store_row rfl 124 _ _ rfl (w.heap.size + 1 + 1) #[.int .i64 (n * m), .int .i64 (d * p)] rfl rfl 124 _ HS1.out.2.2.1 ?_ ?_ ?_ ?_; (kernel_rfl); (rfl); (simp [Value.oneCell']))
 refine bodyPost_ret (results_rowA rfl _ _ (w.heap.size + 1 + 1) 124 #[.int .i64 (n * m), .int .i64 (d * p)] (0, 0) _ rfl (HS1.out.2.2.1.setRow [.int .i64 (n * m), .int .i64 (d * p)]) Tryz.underlying124 rfl (by kernel_rfl)) rfl ⟨rfl, Below.setRow HS1.out.2.2.2 (by omega) _⟩
set_option maxRecDepth 100000 in
set_option maxHeartbeats 1000000 in
theorem integer_anyT (n : Int) (w : World) : Calls Tryz.prog 126 #[.int .i64 n] w fun e w' => e = .returned (.agg #[.int .i64 n, .int .i64 1]) ∧ Below w.heap.size w w' := by
 go_enter Tryz.func126, Tryz.ntmps126
 go_upto_region 1 with fail
 refine genT (fun V => Row V (w.heap.size) 124 [.int .i64 0, .int .i64 0] ∧ Below w.heap.size w V) ⟨(rowAt _ _ (by first | rfl | simp only [World.size_alloc])), ((Below.refl _ _).alloc (by first | exact Nat.le_refl _ | (simp only [World.size_alloc]; omega)) _)⟩ ?_
 intro W1 s1
 have HS1 := Lib.hid s1
 clear s1
 go_wp2_with (refine wpList_store_row rfl 124 _ _ rfl (w.heap.size) #[.int .i64 n, .int .i64 1] rfl rfl 124 _ HS1.out.1 ?_ ?_ ?_ ?_; (kernel_rfl); (rfl); (simp [Value.oneCell']))
 refine bodyPost_ret (results_rowA rfl _ _ (w.heap.size) 124 #[.int .i64 n, .int .i64 1] (0, 0) _ rfl (HS1.out.1.setRow [.int .i64 n, .int .i64 1]) Tryz.underlying124 rfl (by kernel_rfl)) rfl ⟨rfl, Below.setRow HS1.out.2 (by omega) _⟩
def cmpI (a b : Int) : Int := if a < b then -1 else if b < a then 1 else 0
set_option maxRecDepth 100000 in
set_option maxHeartbeats 1000000 in
theorem isNaN64_any (a : Int) (w : World) : Calls Tryz.prog 193 #[.int .i64 a] w fun e w' => e = .returned (.bool false) ∧ w = w' := by
 go_enter Tryz.func193, Tryz.ntmps193
 go_wp2
 go_ret
 exact ⟨by simp, rfl⟩
set_option maxRecDepth 100000 in
set_option maxHeartbeats 1000000 in
theorem cmp64_any (a b : Int) (w : World) : Calls Tryz.prog 170 #[.int .i64 a, .int .i64 b] w fun e w' => e = .returned (.int .i64 (cmpI a b)) ∧ w = w' := by
 rcases Int.lt_trichotomy a b with h | h | h
 · have HR : Hid (cmpI a b = -1) := by unfold Hid cmpI; rw [if_pos h]
   go_enter Tryz.func170, Tryz.ntmps170
   go_wp2_with (go_at_call 193; refine (isNaN64_any _ _).mono ?_; rintro e w2 ⟨rfl, rfl⟩)
   go_ret
   exact ⟨by rw [HR.out]; rfl, rfl⟩
 · have HR : Hid (cmpI a b = 0) := by unfold Hid cmpI; rw [if_neg (by omega), if_neg (by omega)]
   have h1 : ¬ a < b := by omega
   have h2 : ¬ b < a := by omega
   clear h
   go_enter Tryz.func170, Tryz.ntmps170
   go_wp2_with (go_at_call 193; refine (isNaN64_any _ _).mono ?_; rintro e w2 ⟨rfl, rfl⟩)
   go_ret
   exact ⟨by rw [HR.out]; rfl, rfl⟩
 · have HR : Hid (cmpI a b = 1) := by unfold Hid cmpI; rw [if_neg (by omega), if_pos h]
   have h1 : ¬ a < b := by omega
   go_enter Tryz.func170, Tryz.ntmps170
   go_wp2_with (go_at_call 193; refine (isNaN64_any _ _).mono ?_; rintro e w2 ⟨rfl, rfl⟩)
   go_ret
   exact ⟨by rw [HR.out]; rfl, rfl⟩
set_option maxRecDepth 100000 in
set_option maxHeartbeats 1000000 in
theorem compareQ_any (n d m p : Int) (w : World) (h1 : (n * p).natAbs ≤ 9000000000000000000) (h2 : (m * d).natAbs ≤ 9000000000000000000) : Calls Tryz.prog 123 #[.agg #[.int .i64 n, .int .i64 d], .agg #[.int .i64 m, .int .i64 p]] w fun e w' => e = .returned (.int .i64 (cmpI (n * p) (m * d))) ∧ Below w.heap.size w w' := by
 have e1 : IntKind.i64.wrap (n * p) = n * p := IntWalk.i64_in _ (by omega)
 have e2 : IntKind.i64.wrap (m * d) = m * d := IntWalk.i64_in _ (by omega)
 clear h1 h2
 go_enter Tryz.func123, Tryz.ntmps123
 go_upto_region 1 with fail
 refine genT (fun V => Row V (w.heap.size) 124 [.int .i64 n, .int .i64 d] ∧ Row V (w.heap.size + 1) 124 [.int .i64 m, .int .i64 p] ∧ Below w.heap.size w V) ⟨(Row.alloc (rowAt _ _ (by first | rfl | simp only [World.size_alloc])) _), (rowAt _ _ (by first | rfl | simp only [World.size_alloc])), (((Below.refl _ _).alloc (by first | exact Nat.le_refl _ | (simp only [World.size_alloc]; omega)) _).alloc (by first | exact Nat.le_refl _ | (simp only [World.size_alloc]; omega)) _)⟩ ?_
 intro W1 s1
 have HS1 := Lib.hid s1
 clear s1
 have c0 := HS1.out.1.cell 0; have c1 := HS1.out.1.cell 1; have d0 := HS1.out.2.1.cell 0; have d1 := HS1.out.2.1.cell 1
 simp only [List.getElem?_cons_succ, List.getElem?_cons_zero] at c0 c1 d0 d1
 go_wp2_with (go_at_call 170; refine (cmp64_any _ _ _).mono ?_; rintro e w2 ⟨rfl, rfl⟩)
 go_ret
 exact ⟨rfl, HS1.out.2.2⟩
def shownI (scale full n d : Int) : Int := max (-full) (min full ((2 * (n * scale) + d) / (2 * d)))
set_option maxRecDepth 100000 in
set_option maxHeartbeats 1000000 in
theorem shown_any (rs rf rl ra rb n d : Int) (w : World) (hs : 1 ≤ rs ∧ rs ≤ 1000) (hf : 1 ≤ rf ∧ rf ≤ 1000) (hn : n.natAbs ≤ 10000000000000) (hd : 0 < d ∧ d ≤ 10000000000000) : Calls Tryz.prog 99 #[.agg #[.int .i64 rs, .int .i64 rf, .int .i64 rl, .int .i64 ra, .int .i64 rb], .agg #[.int .i64 n, .int .i64 d]] w fun e w' => e = .returned (.int .i64 (shownI rs rf n d)) ∧ Below w.heap.size w w' := by
 have b1 : (n * rs).natAbs ≤ 10000000000000 * 1000 := by rw [Int.natAbs_mul]; exact Nat.mul_le_mul hn (by omega)
 have hd1 : d * 1 = d := Int.mul_one d
 have HI : Hid (∀ W, Calls Tryz.prog 126 #[.int .i64 rs] W fun e w' => e = .returned (.agg #[.int .i64 rs, .int .i64 1]) ∧ Below W.heap.size W w') := fun W => integer_anyT rs W
 have HT : Hid (∀ W, Calls Tryz.prog 145 #[.agg #[.int .i64 n, .int .i64 d], .agg #[.int .i64 rs, .int .i64 1]] W fun e w' => e = .returned (.agg #[.int .i64 (n * rs), .int .i64 d]) ∧ Below W.heap.size W w') := fun W => by have h := timesQ_any n d rs 1 W (by omega) (by omega); rw [hd1] at h; exact h
 obtain ⟨p, hp⟩ : ∃ p, p = (2 * (n * rs) + d) / (2 * d) := ⟨_, rfl⟩
 have HN : Hid (∀ W, Calls Tryz.prog 148 #[.agg #[.int .i64 (n * rs), .int .i64 d]] W fun e w' => e = .returned (.int .i64 p) ∧ Below W.heap.size W w') := fun W => by rw [hp]; exact nearestQ_any (n * rs) d W (by omega) (by omega)
 obtain ⟨nr, hnr⟩ : ∃ nr, nr = n * rs := ⟨_, rfl⟩
 have hsh : shownI rs rf n d = max (-rf) (min rf p) := by unfold shownI; rw [← hp]
 rw [← hnr] at HT HN
 have e1 : IntKind.i64.wrap (-rf) = -rf := IntWalk.i64_in _ (by omega)
 have e2 : IntKind.i64.wrap (0 - rf) = -rf := by rw [Int.zero_sub]; exact e1
 have HF : Hid (1 ≤ rf) := hf.1
 rw [hsh]
 clear hs hf hn hd b1 hd1 hp hnr hsh
 go_enter Tryz.func99, Tryz.ntmps99
 go_upto_region 1 with fail
 refine genT (fun V => Row V (w.heap.size) 69 [.int .i64 rs, .int .i64 rf, .int .i64 rl, .int .i64 ra, .int .i64 rb] ∧ Row V (w.heap.size + 1) 124 [.int .i64 n, .int .i64 d] ∧ Below w.heap.size w V) ⟨(Row.alloc (rowAt _ _ (by first | rfl | simp only [World.size_alloc])) _), (rowAt _ _ (by first | rfl | simp only [World.size_alloc])), (((Below.refl _ _).alloc (by first | exact Nat.le_refl _ | (simp only [World.size_alloc]; omega)) _).alloc (by first | exact Nat.le_refl _ | (simp only [World.size_alloc]; omega)) _)⟩ ?_
 intro W1 s1
 have HS1 := Lib.hid s1
 clear s1
 refine wp_region_held_drew (S := fun V => Row V (w.heap.size) 69 [.int .i64 rs, .int .i64 rf, .int .i64 rl, .int .i64 ra, .int .i64 rb] ∧ Row V (w.heap.size + 1) 124 [.int .i64 n, .int .i64 d] ∧ Below w.heap.size w V) (by kernel_rfl) ?_ (fun hHeld => ?_)
 · exact ⟨(HS1.out.1).drew, (HS1.out.2.1).drew, (HS1.out.2.2).drew⟩
 refine tk 0 6 (.agg #[.int .i64 n, .int .i64 d]) rfl (by kernel_rfl) (fun _ _ _ h => h) (by kernel_rfl) (fun V hV => ex_rowT 124 _ rfl (w.heap.size + 1) rfl 124 [.int .i64 n, .int .i64 d] _ Tryz.underlying124 rfl (by kernel_rfl) (hV.2.1)) hHeld ?_
 try simp only [zz]
 refine tk 1 7 ?_ rfl (by kernel_rfl) (fun _ _ _ h => h) (by kernel_rfl) ?_ hHeld ?_
 rotate_left
 · intro w1 hSw; (try dsimp only at hSw); go_simp <;> with_reducible rfl
 try simp only [zz]
 refine tk 2 8 ?_ rfl (by kernel_rfl) (fun _ _ _ h => h) (by kernel_rfl) ?_ hHeld ?_
 rotate_left
 · intro w1 hSw; (try dsimp only at hSw); have cc := (hSw.1).cell 0; simp only [List.getElem?_cons_succ, List.getElem?_cons_zero] at cc; go_simp <;> with_reducible rfl
 try simp only [zz]
 refine st1 3 (by kernel_rfl) rfl (fun K hK => ?_)
 go_simp
 go_at_call 126
 refine (HI.out _).mono ?_
 rintro e v3 ⟨rfl, hb3⟩
 try go_simp
 refine hK.out _ _ ?_ (fun hHeld => ?_)
 · exact ⟨(hHeld.1).old hb3, (hHeld.2.1).old hb3, (hHeld.2.2).trans ((hb3).mono (hHeld.2.2).size)⟩
 clear hK K
 try simp only [zz]
 refine st1 4 (by kernel_rfl) rfl (fun K hK => ?_)
 go_simp
 go_at_call 145
 refine (HT.out _).mono ?_
 rintro e v4 ⟨rfl, hb4⟩
 try go_simp
 refine hK.out _ _ ?_ (fun hHeld => ?_)
 · exact ⟨(hHeld.1).old hb4, (hHeld.2.1).old hb4, (hHeld.2.2).trans ((hb4).mono (hHeld.2.2).size)⟩
 clear hK K
 try simp only [zz]
 refine st1 5 (by kernel_rfl) rfl (fun K hK => ?_)
 go_simp
 go_at_call 148
 refine (HN.out _).mono ?_
 rintro e v5 ⟨rfl, hb5⟩
 try go_simp
 refine hK.out _ _ ?_ (fun hHeld => ?_)
 · exact ⟨(hHeld.1).old hb5, (hHeld.2.1).old hb5, (hHeld.2.2).trans ((hb5).mono (hHeld.2.2).size)⟩
 clear hK K
 try simp only [zz]
 refine tk 6 5 ?_ rfl (by kernel_rfl) (fun _ _ _ h => h) (by kernel_rfl) ?_ hHeld ?_
 rotate_left
 · intro w1 hSw; (try dsimp only at hSw); go_simp <;> with_reducible rfl
 try simp only [zz]
 refine wpAnyH_done (by kernel_rfl) ?_ _
 have c1 := hHeld.1.cell 1
 simp only [List.getElem?_cons_succ, List.getElem?_cons_zero] at c1
 go_wp2_with fail
 all_goals go_ret
 all_goals exact ⟨ret_int (by have := HF.out; omega), hHeld.2.2⟩
theorem ex_Interval {o : Oper} {a : Act} {w : World} {u v : Value} (x : Operand) (ho : o.op = .load 62 x) (g off : Nat) (hx : a.eval x = .pointer (some ⟨g, off, none⟩)) (c0 : w.cell? ⟨g, off, none⟩ = some u) (c1 : w.cell? ⟨g, off + 1, none⟩ = some v) :
 (execOp a.eval o).run Tryz.prog w = .ok (.value (.agg #[u, v])) w := by
 unfold execOp
 simp only [ho, hx]
 go_simp
def ivE (lo hi low high : Int) : Int := firstI [whenI (rangeB lo low high) 3, whenI (rangeB hi low high) 3, whenI (decide (hi < lo)) 11]
def recE (rs rf rl ra rb : Int) : Int := firstI [whenI (rangeB rs 1 1000) 3, whenI (rangeB rf 1 1000) 3, whenI (rangeB rl 0 200000000) 3, ivE ra rb (-10000) 10000]
set_option maxRecDepth 100000 in
set_option maxHeartbeats 1000000 in
theorem checkReceiver_of (rs rf rl ra rb : Int) (w : World) (HI : ∀ W, Calls Tryz.prog 94 #[.agg #[.int .i64 ra, .int .i64 rb], .int .i64 (-10000), .int .i64 10000] W fun e w' => e = .returned (.int .i64 (ivE ra rb (-10000) 10000)) ∧ Below W.heap.size W w') : Calls Tryz.prog 93 #[.agg #[.int .i64 rs, .int .i64 rf, .int .i64 rl, .int .i64 ra, .int .i64 rb]] w fun e w' => e = .returned (.int .i64 (recE rs rf rl ra rb)) ∧ Below w.heap.size w w' := by
 have HI := Lib.hid HI
 unfold recE
 obtain ⟨E4, hE4⟩ : ∃ E4, E4 = ivE ra rb (-10000) 10000 := ⟨_, rfl⟩
 rw [← hE4] at HI ⊢
 clear hE4
 go_enter Tryz.func93, Tryz.ntmps93
 go_upto_region 1 with fail
 refine genT (fun V => Row V (w.heap.size) 69 [.int .i64 rs, .int .i64 rf, .int .i64 rl, .int .i64 ra, .int .i64 rb] ∧ Below w.heap.size w V) ⟨Row.new w _ [.int .i64 rs, .int .i64 rf, .int .i64 rl, .int .i64 ra, .int .i64 rb], (Below.refl _ _).alloc (Nat.le_refl _) _⟩ ?_
 intro W1 s1
 have HS1 := Lib.hid s1
 clear s1
 refine wp_region_held_drew (S := fun V => Row V (w.heap.size) 69 [.int .i64 rs, .int .i64 rf, .int .i64 rl, .int .i64 ra, .int .i64 rb] ∧ Below w.heap.size w V) (by kernel_rfl) ?_ (fun hHeld => ?_)
 · exact ⟨(HS1.out.1).drew, (HS1.out.2).drew⟩
 refine tk 0 3 ?_ rfl (by kernel_rfl) (fun _ _ _ h => h) (by kernel_rfl) ?_ hHeld ?_
 rotate_left
 · intro w1 hSw; (try dsimp only at hSw); go_simp <;> with_reducible rfl
 try simp only [zz]
 refine tk 1 4 ?_ rfl (by kernel_rfl) (fun _ _ _ h => h) (by kernel_rfl) ?_ hHeld ?_
 rotate_left
 · intro w1 hSw; (try dsimp only at hSw); have cc := (hSw.1).cell 0; simp only [List.getElem?_cons_succ, List.getElem?_cons_zero] at cc; go_simp <;> with_reducible rfl
 try simp only [zz]
 refine tk 3 6 ?_ rfl (by kernel_rfl) (fun _ _ _ h => h) (by kernel_rfl) ?_ hHeld ?_
 rotate_left
 · intro w1 hSw; (try dsimp only at hSw); go_simp <;> with_reducible rfl
 try simp only [zz]
 refine tk 4 7 ?_ rfl (by kernel_rfl) (fun _ _ _ h => h) (by kernel_rfl) ?_ hHeld ?_
 rotate_left
 · intro w1 hSw; (try dsimp only at hSw); have cc := (hSw.1).cell 1; simp only [List.getElem?_cons_succ, List.getElem?_cons_zero] at cc; go_simp <;> with_reducible rfl
 try simp only [zz]
 refine tk 6 9 ?_ rfl (by kernel_rfl) (fun _ _ _ h => h) (by kernel_rfl) ?_ hHeld ?_
 rotate_left
 · intro w1 hSw; (try dsimp only at hSw); go_simp <;> with_reducible rfl
 try simp only [zz]
 refine tk 7 10 ?_ rfl (by kernel_rfl) (fun _ _ _ h => h) (by kernel_rfl) ?_ hHeld ?_
 rotate_left
 · intro w1 hSw; (try dsimp only at hSw); have cc := (hSw.1).cell 2; simp only [List.getElem?_cons_succ, List.getElem?_cons_zero] at cc; go_simp <;> with_reducible rfl
 try simp only [zz]
 refine tk 9 12 ?_ rfl (by kernel_rfl) (fun _ _ _ h => h) (by kernel_rfl) ?_ hHeld ?_
 rotate_left
 · intro w1 hSw; (try dsimp only at hSw); go_simp <;> with_reducible rfl
 try simp only [zz]
 refine tk 10 13 (.agg #[.int .i64 ra, .int .i64 rb]) rfl (by kernel_rfl) (fun _ _ _ h => h) (by kernel_rfl) (fun V hV => ex_Interval _ rfl (w.heap.size) 3 rfl ((hV.1).cell 3) ((hV.1).cell 4)) hHeld ?_
 try simp only [zz]
 refine st1 2 (by kernel_rfl) rfl (fun K hK => ?_)
 go_simp
 go_at_call 97
 refine (between_any rs 1 1000 _).mono ?_
 rintro e v2 ⟨rfl, rfl⟩
 try go_simp
 refine hK.out _ _ ?_ (fun hHeld => ?_)
 · exact hHeld
 clear hK K
 try simp only [zz]
 refine st1 5 (by kernel_rfl) rfl (fun K hK => ?_)
 go_simp
 go_at_call 97
 refine (between_any rf 1 1000 _).mono ?_
 rintro e v5 ⟨rfl, rfl⟩
 try go_simp
 refine hK.out _ _ ?_ (fun hHeld => ?_)
 · exact hHeld
 clear hK K
 try simp only [zz]
 refine st1 8 (by kernel_rfl) rfl (fun K hK => ?_)
 go_simp
 go_at_call 97
 refine (between_any rl 0 200000000 _).mono ?_
 rintro e v8 ⟨rfl, rfl⟩
 try go_simp
 refine hK.out _ _ ?_ (fun hHeld => ?_)
 · exact hHeld
 clear hK K
 try simp only [zz]
 refine st1 11 (by kernel_rfl) rfl (fun K hK => ?_)
 go_simp
 go_at_call 94
 refine (HI.out _).mono ?_
 rintro e v11 ⟨rfl, hb11⟩
 try go_simp
 refine hK.out _ _ ?_ (fun hHeld => ?_)
 · exact ⟨(hHeld.1).old hb11, (hHeld.2).trans ((hb11).mono (hHeld.2).size)⟩
 clear hK K
 try simp only [zz]
 refine st1 12 (by kernel_rfl) rfl (fun K hK => ?_)
 go_simp
 refine hK.out _ _ ?_ (fun hHeld => ?_)
 · exact ⟨(hHeld.1).old ((Below.refl _ _).alloc (Nat.le_refl _) _), (hHeld.2).trans ((((Below.refl _ _).alloc (Nat.le_refl _) _)).mono (hHeld.2).size)⟩
 clear hK K
 try simp only [zz]
 refine st1 13 (by kernel_rfl) rfl (fun K hK => ?_)
 go_simp
 go_at_call 80
 refine (firstV_any _ _ _ [whenI (rangeB rs 1 1000) 3, whenI (rangeB rf 1 1000) 3, whenI (rangeB rl 0 200000000) 3, E4] _ ?_ rfl (by simp)).mono ?_
 · exact Rd.newT (t := 29)
 rintro e v13 ⟨rfl, rfl⟩
 try go_simp
 refine hK.out _ _ ?_ (fun hHeld => ?_)
 · exact hHeld
 clear hK K
 try simp only [zz]
 refine tk 14 2 ?_ rfl (by kernel_rfl) (fun _ _ _ h => h) (by kernel_rfl) ?_ hHeld ?_
 rotate_left
 · intro w1 hSw; (try dsimp only at hSw); go_simp <;> with_reducible rfl
 try simp only [zz]
 refine wpAnyH_done (by kernel_rfl) ?_ _
 go_wp2_with fail
 go_ret
 exact ⟨rfl, hHeld.2⟩
def nEq : Value → Value → Bool
 | .int _ a, .int _ b => a == b
 | _, _ => false
set_option maxRecDepth 100000 in
theorem isAggI (w : World) : (isAgg 3).run Tryz.prog w = .ok false w := by kernel_rfl
set_option maxRecDepth 100000 in
theorem eqInt2 (a b c d : Int) (w : World) : (Op.equalIn 10000 217 (.agg #[.int .i64 a, .int .i64 b]) (.agg #[.int .i64 c, .int .i64 d])).run Tryz.prog w = .ok (a == c && b == d) w := by
 obtain ⟨i, hi, _⟩ := Option.map_eq_some_iff.1 (show (Tryz.prog.info? 3).map (·.size) = some 1 by kernel_rfl)
 have h := run_eqArray (P := Tryz.prog) w 9999 217 3 2 i nEq [.int .i64 a, .int .i64 b] [.int .i64 c, .int .i64 d] Tryz.underlying217 hi (by kernel_rfl) (part_scalar w _ isAggI) ?_ rfl rfl
 · rw [show all2 nEq [.int .i64 a, .int .i64 b] [.int .i64 c, .int .i64 d] = (a == c && b == d) by simp [all2, nEq]] at h
   exact h
 intro j hj
 match j, hj with
 | 0, _ => exact run_equalIn_int w 9998 _ .i64 .i64 _ _ Tryz.underlying3
 | 1, _ => exact run_equalIn_int w 9998 _ .i64 .i64 _ _ Tryz.underlying3
theorem neqInt2 (a b c d : Int) (w : World) : (binOp .neq 217 (.agg #[.int .i64 a, .int .i64 b]) (.agg #[.int .i64 c, .int .i64 d])).run Tryz.prog w = .ok (.bool (!(a == c && b == d))) w := by
 rw [run_neq_struct, eqInt2]; rfl
set_option maxRecDepth 100000 in
set_option maxHeartbeats 1000000 in
theorem checkInterval_any (lo hi low high : Int) (w : World) : Calls Tryz.prog 94 #[.agg #[.int .i64 lo, .int .i64 hi], .int .i64 low, .int .i64 high] w fun e w' => e = .returned (.int .i64 (ivE lo hi low high)) ∧ Below w.heap.size w w' := by
 obtain ⟨mn, hmn⟩ : ∃ mn, mn = (if hi < lo then hi else lo) := ⟨_, rfl⟩
 obtain ⟨mx, hmx⟩ : ∃ mx, mx = (if lo < hi then hi else lo) := ⟨_, rfl⟩
 have hz : ∀ w, (binOp .neq 217 (.agg #[.int .i64 lo, .int .i64 hi]) (.agg #[.int .i64 mn, .int .i64 mx])).run Tryz.prog w = .ok (.bool (decide (hi < lo))) w := fun w => by
  rw [neqInt2]
  have e : (!(lo == mn && hi == mx)) = decide (hi < lo) := by
   by_cases h : hi < lo
   · have h1 : (lo == mn) = false := by simpa using (by omega : lo ≠ mn)
     simp [h, h1]
   · have h1 : (lo == mn) = true := by simpa using (by omega : lo = mn)
     have h2 : (hi == mx) = true := by simpa using (by omega : hi = mx)
     simp [h, h1, h2]
  rw [e]
 unfold ivE
 obtain ⟨zb, hzb⟩ : ∃ zb, zb = decide (hi < lo) := ⟨_, rfl⟩
 rw [← hzb] at hz ⊢
 clear hzb
 go_enter Tryz.func94, Tryz.ntmps94
 go_upto_region 1 with fail
 refine genT (fun V => Row V (w.heap.size) 62 [.int .i64 lo, .int .i64 hi] ∧ Below w.heap.size w V) ⟨(rowAt _ _ (by first | rfl | simp only [World.size_alloc])), ((Below.refl _ _).alloc (by first | exact Nat.le_refl _ | (simp only [World.size_alloc]; omega)) _)⟩ ?_
 intro W1 s1
 have HS1 := Lib.hid s1
 clear s1
 have d0 := HS1.out.1.cell 0; have d1 := HS1.out.1.cell 1
 simp only [List.getElem?_cons_succ, List.getElem?_cons_zero] at d0 d1
 go_upto_region 2 with (first
  | (refine wpList_store_row rfl 217 _ _ rfl (W1.heap.size) #[.int .i64 lo, .int .i64 hi] rfl rfl 217 _ (Row.new W1 217 [.int .i64 0, .int .i64 0]) ?_ ?_ ?_ ?_; (kernel_rfl); (rfl); (simp [Value.oneCell'])))
 have hbn : Below W1.heap.size W1 ((W1.alloc (.cells #[.int .i64 0, .int .i64 0] 217)).setRow W1.heap.size #[.int .i64 lo, .int .i64 hi]) := Below.setRow ((Below.refl _ _).alloc (Nat.le_refl _) _) (Nat.le_refl _) _
 refine genT (fun V => Row V (w.heap.size) 62 [.int .i64 lo, .int .i64 hi] ∧ Row V (W1.heap.size) 217 [.int .i64 lo, .int .i64 hi] ∧ Below w.heap.size w V) ⟨HS1.out.1.old hbn, (Row.new W1 217 [.int .i64 0, .int .i64 0]).setRow _, HS1.out.2.trans (hbn.mono HS1.out.2.size)⟩ ?_
 intro W2 s2
 have HS2 := Lib.hid s2
 clear s2 hbn d0 d1
 have d0 := HS2.out.1.cell 0; have d1 := HS2.out.1.cell 1
 simp only [List.getElem?_cons_succ, List.getElem?_cons_zero] at d0 d1
 go_upto_region 3 with (first
  | (refine wpList_store_row rfl 217 _ _ rfl (W2.heap.size) #[.int .i64 (if hi < lo then hi else lo), .int .i64 (if lo < hi then hi else lo)] rfl rfl 217 _ (Row.new W2 217 [.int .i64 0, .int .i64 0]) ?_ ?_ ?_ ?_; (kernel_rfl); (rfl); (simp [Value.oneCell'])))
 rw [← hmn, ← hmx]
 clear hmn hmx d0 d1
 have hbn : Below W2.heap.size W2 ((W2.alloc (.cells #[.int .i64 0, .int .i64 0] 217)).setRow W2.heap.size #[.int .i64 mn, .int .i64 mx]) := Below.setRow ((Below.refl _ _).alloc (Nat.le_refl _) _) (Nat.le_refl _) _
 refine genT (fun V => Row V (w.heap.size) 62 [.int .i64 lo, .int .i64 hi] ∧ Row V (W1.heap.size) 217 [.int .i64 lo, .int .i64 hi] ∧ Row V (W2.heap.size) 217 [.int .i64 mn, .int .i64 mx] ∧ Below w.heap.size w V) ⟨HS2.out.1.old hbn, HS2.out.2.1.old hbn, (Row.new W2 217 [.int .i64 0, .int .i64 0]).setRow _, HS2.out.2.2.trans (hbn.mono HS2.out.2.2.size)⟩ ?_
 intro W3 s3
 have HS3 := Lib.hid s3
 clear s3 hbn
 refine wp_region_held_drew (S := fun V => Row V (w.heap.size) 62 [.int .i64 lo, .int .i64 hi] ∧ Row V (W1.heap.size) 217 [.int .i64 lo, .int .i64 hi] ∧ Row V (W2.heap.size) 217 [.int .i64 mn, .int .i64 mx] ∧ Below w.heap.size w V) (by kernel_rfl) ?_ (fun hHeld => ?_)
 · exact ⟨(HS3.out.1).drew, (HS3.out.2.1).drew, (HS3.out.2.2.1).drew, (HS3.out.2.2.2).drew⟩
 refine tk 0 25 ?_ rfl (by kernel_rfl) (fun _ _ _ h => h) (by kernel_rfl) ?_ hHeld ?_
 rotate_left
 · intro w1 hSw; (try dsimp only at hSw); go_simp <;> with_reducible rfl
 try simp only [zz]
 refine tk 1 26 ?_ rfl (by kernel_rfl) (fun _ _ _ h => h) (by kernel_rfl) ?_ hHeld ?_
 rotate_left
 · intro w1 hSw; (try dsimp only at hSw); have cc := (hSw.1).cell 0; simp only [List.getElem?_cons_succ, List.getElem?_cons_zero] at cc; go_simp <;> with_reducible rfl
 try simp only [zz]
 refine tk 2 27 ?_ rfl (by kernel_rfl) (fun _ _ _ h => h) (by kernel_rfl) ?_ hHeld ?_
 rotate_left
 · intro w1 hSw; (try dsimp only at hSw); go_simp <;> with_reducible rfl
 try simp only [zz]
 refine tk 3 28 ?_ rfl (by kernel_rfl) (fun _ _ _ h => h) (by kernel_rfl) ?_ hHeld ?_
 rotate_left
 · intro w1 hSw; (try dsimp only at hSw); go_simp <;> with_reducible rfl
 try simp only [zz]
 refine tk 5 30 ?_ rfl (by kernel_rfl) (fun _ _ _ h => h) (by kernel_rfl) ?_ hHeld ?_
 rotate_left
 · intro w1 hSw; (try dsimp only at hSw); go_simp <;> with_reducible rfl
 try simp only [zz]
 refine tk 6 31 ?_ rfl (by kernel_rfl) (fun _ _ _ h => h) (by kernel_rfl) ?_ hHeld ?_
 rotate_left
 · intro w1 hSw; (try dsimp only at hSw); have cc := (hSw.1).cell 1; simp only [List.getElem?_cons_succ, List.getElem?_cons_zero] at cc; go_simp <;> with_reducible rfl
 try simp only [zz]
 refine tk 7 32 ?_ rfl (by kernel_rfl) (fun _ _ _ h => h) (by kernel_rfl) ?_ hHeld ?_
 rotate_left
 · intro w1 hSw; (try dsimp only at hSw); go_simp <;> with_reducible rfl
 try simp only [zz]
 refine tk 8 33 ?_ rfl (by kernel_rfl) (fun _ _ _ h => h) (by kernel_rfl) ?_ hHeld ?_
 rotate_left
 · intro w1 hSw; (try dsimp only at hSw); go_simp <;> with_reducible rfl
 try simp only [zz]
 refine tk 10 35 (.agg #[.int .i64 lo, .int .i64 hi]) rfl (by kernel_rfl) (fun _ _ _ h => h) (by kernel_rfl) (fun V hV => ex_rowT 217 _ rfl (W1.heap.size) rfl 217 [.int .i64 lo, .int .i64 hi] _ Tryz.underlying217 rfl (by kernel_rfl) (hV.2.1)) hHeld ?_
 try simp only [zz]
 refine tk 11 36 (.agg #[.int .i64 mn, .int .i64 mx]) rfl (by kernel_rfl) (fun _ _ _ h => h) (by kernel_rfl) (fun V hV => ex_rowT 217 _ rfl (W2.heap.size) rfl 217 [.int .i64 mn, .int .i64 mx] _ Tryz.underlying217 rfl (by kernel_rfl) (hV.2.2.1)) hHeld ?_
 try simp only [zz]
 refine tk 12 37 ?_ rfl (by kernel_rfl) (fun _ _ _ h => h) (by kernel_rfl) ?_ hHeld ?_
 rotate_left
 · intro w1 hSw; (try dsimp only at hSw); go_simp <;> with_reducible rfl
 try simp only [zz]
 refine st1 4 (by kernel_rfl) rfl (fun K hK => ?_)
 go_simp
 go_at_call 97
 refine (between_any lo low high _).mono ?_
 rintro e v4 ⟨rfl, rfl⟩
 try go_simp
 refine hK.out _ _ ?_ (fun hHeld => ?_)
 · exact hHeld
 clear hK K
 try simp only [zz]
 refine st1 9 (by kernel_rfl) rfl (fun K hK => ?_)
 go_simp
 go_at_call 97
 refine (between_any hi low high _).mono ?_
 rintro e v9 ⟨rfl, rfl⟩
 try go_simp
 refine hK.out _ _ ?_ (fun hHeld => ?_)
 · exact hHeld
 clear hK K
 try simp only [zz]
 refine st1 13 (by kernel_rfl) rfl (fun K hK => ?_)
 go_simp
 go_at_call 82
 refine (failed_any zb 11 _).mono ?_
 rintro e v13 ⟨rfl, rfl⟩
 try go_simp
 refine hK.out _ _ ?_ (fun hHeld => ?_)
 · exact hHeld
 clear hK K
 try simp only [zz]
 refine st1 14 (by kernel_rfl) rfl (fun K hK => ?_)
 go_simp
 refine hK.out _ _ ?_ (fun hHeld => ?_)
 · exact ⟨(hHeld.1).old ((Below.refl _ _).alloc (Nat.le_refl _) _), (hHeld.2.1).old ((Below.refl _ _).alloc (Nat.le_refl _) _), (hHeld.2.2.1).old ((Below.refl _ _).alloc (Nat.le_refl _) _), (hHeld.2.2.2).trans ((((Below.refl _ _).alloc (Nat.le_refl _) _)).mono (hHeld.2.2.2).size)⟩
 clear hK K
 try simp only [zz]
 refine st1 15 (by kernel_rfl) rfl (fun K hK => ?_)
 go_simp
 go_at_call 80
 refine (firstV_any _ _ _ [whenI (rangeB lo low high) 3, whenI (rangeB hi low high) 3, whenI zb 11] _ ?_ rfl (by simp)).mono ?_
 · exact Rd.newT (t := 29)
 rintro e v13 ⟨rfl, rfl⟩
 try go_simp
 refine hK.out _ _ ?_ (fun hHeld => ?_)
 · exact hHeld
 clear hK K
 try simp only [zz]
 refine tk 16 6 ?_ rfl (by kernel_rfl) (fun _ _ _ h => h) (by kernel_rfl) ?_ hHeld ?_
 rotate_left
 · intro w1 hSw; (try dsimp only at hSw); go_simp <;> with_reducible rfl
 try simp only [zz]
 refine wpAnyH_done (by kernel_rfl) ?_ _
 go_wp2_with fail
 go_ret
 exact ⟨rfl, hHeld.2.2.2⟩
set_option maxRecDepth 100000 in
set_option maxHeartbeats 1000000 in
theorem checkReceiver_any (rs rf rl ra rb : Int) (w : World) : Calls Tryz.prog 93 #[.agg #[.int .i64 rs, .int .i64 rf, .int .i64 rl, .int .i64 ra, .int .i64 rb]] w fun e w' => e = .returned (.int .i64 (recE rs rf rl ra rb)) ∧ Below w.heap.size w w' := by
 exact checkReceiver_of rs rf rl ra rb w (fun W => checkInterval_any ra rb (-10000) 10000 W)
end Go.Proofs.YtcaekblnioidiaaGreatDoor
