import Derived.Test.YtcaekblnioidiaaGreatDoorM18
namespace Go.Proofs.YtcaekblnioidiaaGreatDoor
set_option linter.all false
open Go.RowKit Go.Fl
set_option maxRecDepth 100000 in
set_option maxHeartbeats 1000000 in
theorem checkTwoR_any (a b c d x y k l m n u v t : Int) (w : World) : Calls Tryz.prog 33 #[.agg #[.int .i64 a, .int .i64 b, .int .i64 c, .int .i64 d, .int .i64 x, .int .i64 y], .agg #[.int .i64 k, .int .i64 l, .int .i64 m, .int .i64 n, .int .i64 u, .int .i64 v], .int .i64 t] w fun e w' => e = .returned (.int .i64 (firstI [sigE a b c d x y, sigE k l m n u v, whenI (rangeB t 1000 10000) 3])) ∧ Below w.heap.size w w' := by
 obtain ⟨P1, hP1⟩ : ∃ P, P = sigE a b c d x y := ⟨_, rfl⟩
 obtain ⟨P2, hP2⟩ : ∃ P, P = sigE k l m n u v := ⟨_, rfl⟩
 have HC1 : Hid (∀ W, Calls Tryz.prog 13 #[.agg #[.int .i64 a, .int .i64 b, .int .i64 c, .int .i64 d, .int .i64 x, .int .i64 y]] W fun e w' => e = .returned (.int .i64 P1) ∧ Below W.heap.size W w') := fun W => by rw [hP1]; exact checkSignalR_any a b c d x y W
 have HC2 : Hid (∀ W, Calls Tryz.prog 13 #[.agg #[.int .i64 k, .int .i64 l, .int .i64 m, .int .i64 n, .int .i64 u, .int .i64 v]] W fun e w' => e = .returned (.int .i64 P2) ∧ Below W.heap.size W w') := fun W => by rw [hP2]; exact checkSignalR_any k l m n u v W
 rw [← hP1, ← hP2]
 clear hP1 hP2
 go_enter Tryz.func33, Tryz.ntmps33
 go_upto_region 1 with fail
 refine genT (fun V => Row V (w.heap.size) 25 [.int .i64 a, .int .i64 b, .int .i64 c, .int .i64 d, .int .i64 x, .int .i64 y] ∧ Row V (w.heap.size + 1) 25 [.int .i64 k, .int .i64 l, .int .i64 m, .int .i64 n, .int .i64 u, .int .i64 v] ∧ Below w.heap.size w V) ⟨(Row.alloc (rowAt _ _ (by first | rfl | simp only [World.size_alloc])) _), (rowAt _ _ (by first | rfl | simp only [World.size_alloc])), (((Below.refl _ _).alloc (by first | exact Nat.le_refl _ | (simp only [World.size_alloc]; omega)) _).alloc (by first | exact Nat.le_refl _ | (simp only [World.size_alloc]; omega)) _)⟩ ?_
 intro W1 s1
 have HS1 := Lib.hid s1
 clear s1
 refine wp_region_held_drew (S := fun V => Row V (w.heap.size) 25 [.int .i64 a, .int .i64 b, .int .i64 c, .int .i64 d, .int .i64 x, .int .i64 y] ∧ Row V (w.heap.size + 1) 25 [.int .i64 k, .int .i64 l, .int .i64 m, .int .i64 n, .int .i64 u, .int .i64 v] ∧ Below w.heap.size w V) (by kernel_rfl) ?_ (fun hHeld => ?_)
 · exact ⟨(HS1.out.1).drew, (HS1.out.2.1).drew, (HS1.out.2.2).drew⟩
 refine tk 0 7 (.agg #[.int .i64 a, .int .i64 b, .int .i64 c, .int .i64 d, .int .i64 x, .int .i64 y]) rfl (by kernel_rfl) (fun _ _ _ h => h) (by kernel_rfl) (fun V hV => ex_rowT 25 _ rfl (w.heap.size) rfl 25 [.int .i64 a, .int .i64 b, .int .i64 c, .int .i64 d, .int .i64 x, .int .i64 y] _ Tryz.underlying25 rfl (by kernel_rfl) (hV.1)) hHeld ?_
 try simp only [zz]
 refine tk 2 9 (.agg #[.int .i64 k, .int .i64 l, .int .i64 m, .int .i64 n, .int .i64 u, .int .i64 v]) rfl (by kernel_rfl) (fun _ _ _ h => h) (by kernel_rfl) (fun V hV => ex_rowT 25 _ rfl (w.heap.size + 1) rfl 25 [.int .i64 k, .int .i64 l, .int .i64 m, .int .i64 n, .int .i64 u, .int .i64 v] _ Tryz.underlying25 rfl (by kernel_rfl) (hV.2.1)) hHeld ?_
 try simp only [zz]
 refine tk 4 11 ?_ rfl (by kernel_rfl) (fun _ _ _ h => h) (by kernel_rfl) ?_ hHeld ?_
 rotate_left
 · intro w1 hSw; (try dsimp only at hSw); go_simp <;> with_reducible rfl
 try simp only [zz]
 refine st1 1 (by kernel_rfl) rfl (fun K hK => ?_)
 go_simp
 go_at_call 13
 refine (HC1.out _).mono ?_
 rintro e v1 ⟨rfl, hb1⟩
 try go_simp
 refine hK.out _ _ ?_ (fun hHeld => ?_)
 · exact ⟨(hHeld.1).old hb1, (hHeld.2.1).old hb1, (hHeld.2.2).trans ((hb1).mono (hHeld.2.2).size)⟩
 clear hK K
 try simp only [zz]
 refine st1 3 (by kernel_rfl) rfl (fun K hK => ?_)
 go_simp
 go_at_call 13
 refine (HC2.out _).mono ?_
 rintro e v3 ⟨rfl, hb3⟩
 try go_simp
 refine hK.out _ _ ?_ (fun hHeld => ?_)
 · exact ⟨(hHeld.1).old hb3, (hHeld.2.1).old hb3, (hHeld.2.2).trans ((hb3).mono (hHeld.2.2).size)⟩
 clear hK K
 try simp only [zz]
 refine st1 5 (by kernel_rfl) rfl (fun K hK => ?_)
 go_simp
 go_at_call 40
 refine (checkRange_any t 1000 10000 _).mono ?_
 rintro e v5 ⟨rfl, rfl⟩
 try go_simp
 refine hK.out _ _ ?_ (fun hHeld => ?_)
 · exact hHeld
 clear hK K
 try simp only [zz]
 refine st1 6 (by kernel_rfl) rfl (fun K hK => ?_)
 go_simp
 refine hK.out _ _ ?_ (fun hHeld => ?_)
 · exact ⟨(hHeld.1).old ((Below.refl _ _).alloc (Nat.le_refl _) _), (hHeld.2.1).old ((Below.refl _ _).alloc (Nat.le_refl _) _), (hHeld.2.2).trans ((((Below.refl _ _).alloc (Nat.le_refl _) _)).mono (hHeld.2.2).size)⟩
 clear hK K
 try simp only [zz]
 refine st1 7 (by kernel_rfl) rfl (fun K hK => ?_)
 go_simp
 go_at_call 24
 refine (first_any _ _ _ [P1, P2, whenI (rangeB t 1000 10000) 3] _ ?_ rfl (by simp)).mono ?_
 · exact Rd.newT (t := 3)
 rintro e v99 ⟨rfl, rfl⟩
 try go_simp
 refine hK.out _ _ ?_ (fun hHeld => ?_)
 · exact hHeld
 clear hK K
 try simp only [zz]
 refine tk 8 6 ?_ rfl (by kernel_rfl) (fun _ _ _ h => h) (by kernel_rfl) ?_ hHeld ?_
 rotate_left
 · intro w1 hSw; (try dsimp only at hSw); go_simp <;> with_reducible rfl
 try simp only [zz]
 refine wpAnyH_done (by kernel_rfl) ?_ _
 go_wp2_with fail
 go_ret
 exact ⟨rfl, hHeld.2.2⟩
set_option maxRecDepth 100000 in
set_option maxHeartbeats 4000000 in
theorem capturedR_any (a b c d x y k l m n u v t p q : Int) (w : World) (h1 : Gs a b) (h2 : Gs k l) (hp : p = a * a + b * b) (hq : q = k * k + l * l) (bp : 0 ≤ p ∧ p ≤ 1000000000) (bq : 0 ≤ q ∧ q ≤ 1000000000) (ht : 0 ≤ t ∧ t ≤ 10000) : Calls Tryz.prog 34 #[.agg #[.int .i64 a, .int .i64 b, .int .i64 c, .int .i64 d, .int .i64 x, .int .i64 y], .agg #[.int .i64 k, .int .i64 l, .int .i64 m, .int .i64 n, .int .i64 u, .int .i64 v], .int .i64 t] w fun e w' => e = .returned (.int .i64 (capI p q t)) ∧ Below w.heap.size w w' := by
 have HQ1 : Hid (∀ W, Calls Tryz.prog 14 #[.agg #[.int .i64 a, .int .i64 b, .int .i64 c, .int .i64 d, .int .i64 x, .int .i64 y]] W fun e w' => e = .returned (.int .i64 p) ∧ Below W.heap.size W w') := fun W => by rw [hp]; exact squareR_any a b c d x y W h1
 have HQ2 : Hid (∀ W, Calls Tryz.prog 14 #[.agg #[.int .i64 k, .int .i64 l, .int .i64 m, .int .i64 n, .int .i64 u, .int .i64 v]] W fun e w' => e = .returned (.int .i64 q) ∧ Below W.heap.size W w') := fun W => by rw [hq]; exact squareR_any k l m n u v W h2
 have hpt : 0 ≤ p * t ∧ p * t ≤ 10000000000000 := ⟨Int.mul_nonneg bp.1 ht.1, Int.le_trans (Int.mul_le_mul bp.2 ht.2 ht.1 (by decide)) (by decide)⟩
 have hqt : 0 ≤ q * t ∧ q * t ≤ 10000000000000 := ⟨Int.mul_nonneg bq.1 ht.1, Int.le_trans (Int.mul_le_mul bq.2 ht.2 ht.1 (by decide)) (by decide)⟩
 have e0 : IntKind.i64.wrap (p * 1000) = p * 1000 := IntWalk.i64_in _ (by omega)
 have e1 : IntKind.i64.wrap (q * t) = q * t := IntWalk.i64_in _ (by omega)
 have e2 : IntKind.i64.wrap (q * 1000) = q * 1000 := IntWalk.i64_in _ (by omega)
 have e3 : IntKind.i64.wrap (p * t) = p * t := IntWalk.i64_in _ (by omega)
 clear h1 h2 hp hq bp bq ht hpt hqt
 by_cases g0 : q * t ≤ p * 1000
 · have d0 : decide (q * t ≤ p * 1000) = true := decide_eq_true g0
   have hc : capI p q t = 0 := if_pos g0
   rw [hc]
   clear hc g0
   go_enter Tryz.func34, Tryz.ntmps34
   go_upto_region 1 with fail
   refine genT (fun V => Row V (w.heap.size) 25 [.int .i64 a, .int .i64 b, .int .i64 c, .int .i64 d, .int .i64 x, .int .i64 y] ∧ Row V (w.heap.size + 1) 25 [.int .i64 k, .int .i64 l, .int .i64 m, .int .i64 n, .int .i64 u, .int .i64 v] ∧ Below w.heap.size w V) ⟨(Row.alloc (rowAt _ _ (by first | rfl | simp only [World.size_alloc])) _), (rowAt _ _ (by first | rfl | simp only [World.size_alloc])), (((Below.refl _ _).alloc (by first | exact Nat.le_refl _ | (simp only [World.size_alloc]; omega)) _).alloc (by first | exact Nat.le_refl _ | (simp only [World.size_alloc]; omega)) _)⟩ ?_
   intro W1 s1
   have HS1 := Lib.hid s1
   clear s1
   refine wp_region_held_drew (S := fun V => Row V (w.heap.size) 25 [.int .i64 a, .int .i64 b, .int .i64 c, .int .i64 d, .int .i64 x, .int .i64 y] ∧ Row V (w.heap.size + 1) 25 [.int .i64 k, .int .i64 l, .int .i64 m, .int .i64 n, .int .i64 u, .int .i64 v] ∧ Below w.heap.size w V) (by kernel_rfl) ?_ (fun hHeld => ?_)
   · exact ⟨(HS1.out.1).drew, (HS1.out.2.1).drew, (HS1.out.2.2).drew⟩
   refine tk 0 7 (.agg #[.int .i64 a, .int .i64 b, .int .i64 c, .int .i64 d, .int .i64 x, .int .i64 y]) rfl (by kernel_rfl) (fun _ _ _ h => h) (by kernel_rfl) (fun V hV => ex_rowT 25 _ rfl (w.heap.size) rfl 25 [.int .i64 a, .int .i64 b, .int .i64 c, .int .i64 d, .int .i64 x, .int .i64 y] _ Tryz.underlying25 rfl (by kernel_rfl) (hV.1)) hHeld ?_
   try simp only [zz]
   refine tk 3 10 (.agg #[.int .i64 k, .int .i64 l, .int .i64 m, .int .i64 n, .int .i64 u, .int .i64 v]) rfl (by kernel_rfl) (fun _ _ _ h => h) (by kernel_rfl) (fun V hV => ex_rowT 25 _ rfl (w.heap.size + 1) rfl 25 [.int .i64 k, .int .i64 l, .int .i64 m, .int .i64 n, .int .i64 u, .int .i64 v] _ Tryz.underlying25 rfl (by kernel_rfl) (hV.2.1)) hHeld ?_
   try simp only [zz]
   refine tk 5 12 ?_ rfl (by kernel_rfl) (fun _ _ _ h => h) (by kernel_rfl) ?_ hHeld ?_
   rotate_left
   · intro w1 hSw; (try dsimp only at hSw); go_simp <;> with_reducible rfl
   try simp only [zz]
   refine st1 1 (by kernel_rfl) rfl (fun K hK => ?_)
   go_simp
   go_at_call 14
   refine (HQ1.out _).mono ?_
   rintro e v1 ⟨rfl, hb1⟩
   try go_simp
   refine hK.out _ _ ?_ (fun hHeld => ?_)
   · exact ⟨(hHeld.1).old hb1, (hHeld.2.1).old hb1, (hHeld.2.2).trans ((hb1).mono (hHeld.2.2).size)⟩
   clear hK K
   try simp only [zz]
   refine tk 2 9 ?_ rfl (by kernel_rfl) (fun _ _ _ h => h) (by kernel_rfl) ?_ hHeld ?_
   rotate_left
   · intro w1 hSw; (try dsimp only at hSw); go_simp <;> with_reducible rfl
   try simp only [zz]
   refine st1 4 (by kernel_rfl) rfl (fun K hK => ?_)
   go_simp
   go_at_call 14
   refine (HQ2.out _).mono ?_
   rintro e v4 ⟨rfl, hb4⟩
   try go_simp
   refine hK.out _ _ ?_ (fun hHeld => ?_)
   · exact ⟨(hHeld.1).old hb4, (hHeld.2.1).old hb4, (hHeld.2.2).trans ((hb4).mono (hHeld.2.2).size)⟩
   clear hK K
   try simp only [zz]
   refine tk 6 13 ?_ rfl (by kernel_rfl) (fun _ _ _ h => h) (by kernel_rfl) ?_ hHeld ?_
   rotate_left
   · intro w1 hSw; (try dsimp only at hSw); go_simp <;> with_reducible rfl
   try simp only [zz]
   refine tk 7 14 ?_ rfl (by kernel_rfl) (fun _ _ _ h => h) (by kernel_rfl) ?_ hHeld ?_
   rotate_left
   · intro w1 hSw; (try dsimp only at hSw); go_simp <;> with_reducible rfl
   try simp only [zz]
   refine wpAnyH_done (by kernel_rfl) ?_ _
   go_wp2_with fail
   go_ret
   exact ⟨rfl, hHeld.2.2⟩
 · have d0 : decide (q * t ≤ p * 1000) = false := decide_eq_false g0
   by_cases g1 : p * t ≤ q * 1000
   · have d1 : decide (p * t ≤ q * 1000) = true := decide_eq_true g1
     have hc : capI p q t = 1 := (if_neg g0).trans (if_pos g1)
     rw [hc]
     clear hc g0 g1
     go_enter Tryz.func34, Tryz.ntmps34
     go_upto_region 1 with fail
     refine genT (fun V => Row V (w.heap.size) 25 [.int .i64 a, .int .i64 b, .int .i64 c, .int .i64 d, .int .i64 x, .int .i64 y] ∧ Row V (w.heap.size + 1) 25 [.int .i64 k, .int .i64 l, .int .i64 m, .int .i64 n, .int .i64 u, .int .i64 v] ∧ Below w.heap.size w V) ⟨(Row.alloc (rowAt _ _ (by first | rfl | simp only [World.size_alloc])) _), (rowAt _ _ (by first | rfl | simp only [World.size_alloc])), (((Below.refl _ _).alloc (by first | exact Nat.le_refl _ | (simp only [World.size_alloc]; omega)) _).alloc (by first | exact Nat.le_refl _ | (simp only [World.size_alloc]; omega)) _)⟩ ?_
     intro W1 s1
     have HS1 := Lib.hid s1
     clear s1
     refine wp_region_held_drew (S := fun V => Row V (w.heap.size) 25 [.int .i64 a, .int .i64 b, .int .i64 c, .int .i64 d, .int .i64 x, .int .i64 y] ∧ Row V (w.heap.size + 1) 25 [.int .i64 k, .int .i64 l, .int .i64 m, .int .i64 n, .int .i64 u, .int .i64 v] ∧ Below w.heap.size w V) (by kernel_rfl) ?_ (fun hHeld => ?_)
     · exact ⟨(HS1.out.1).drew, (HS1.out.2.1).drew, (HS1.out.2.2).drew⟩
     refine tk 0 7 (.agg #[.int .i64 a, .int .i64 b, .int .i64 c, .int .i64 d, .int .i64 x, .int .i64 y]) rfl (by kernel_rfl) (fun _ _ _ h => h) (by kernel_rfl) (fun V hV => ex_rowT 25 _ rfl (w.heap.size) rfl 25 [.int .i64 a, .int .i64 b, .int .i64 c, .int .i64 d, .int .i64 x, .int .i64 y] _ Tryz.underlying25 rfl (by kernel_rfl) (hV.1)) hHeld ?_
     try simp only [zz]
     refine tk 3 10 (.agg #[.int .i64 k, .int .i64 l, .int .i64 m, .int .i64 n, .int .i64 u, .int .i64 v]) rfl (by kernel_rfl) (fun _ _ _ h => h) (by kernel_rfl) (fun V hV => ex_rowT 25 _ rfl (w.heap.size + 1) rfl 25 [.int .i64 k, .int .i64 l, .int .i64 m, .int .i64 n, .int .i64 u, .int .i64 v] _ Tryz.underlying25 rfl (by kernel_rfl) (hV.2.1)) hHeld ?_
     try simp only [zz]
     refine tk 5 12 ?_ rfl (by kernel_rfl) (fun _ _ _ h => h) (by kernel_rfl) ?_ hHeld ?_
     rotate_left
     · intro w1 hSw; (try dsimp only at hSw); go_simp <;> with_reducible rfl
     try simp only [zz]
     refine st1 1 (by kernel_rfl) rfl (fun K hK => ?_)
     go_simp
     go_at_call 14
     refine (HQ1.out _).mono ?_
     rintro e v1 ⟨rfl, hb1⟩
     try go_simp
     refine hK.out _ _ ?_ (fun hHeld => ?_)
     · exact ⟨(hHeld.1).old hb1, (hHeld.2.1).old hb1, (hHeld.2.2).trans ((hb1).mono (hHeld.2.2).size)⟩
     clear hK K
     try simp only [zz]
     refine tk 2 9 ?_ rfl (by kernel_rfl) (fun _ _ _ h => h) (by kernel_rfl) ?_ hHeld ?_
     rotate_left
     · intro w1 hSw; (try dsimp only at hSw); go_simp <;> with_reducible rfl
     try simp only [zz]
     refine st1 4 (by kernel_rfl) rfl (fun K hK => ?_)
     go_simp
     go_at_call 14
     refine (HQ2.out _).mono ?_
     rintro e v4 ⟨rfl, hb4⟩
     try go_simp
     refine hK.out _ _ ?_ (fun hHeld => ?_)
     · exact ⟨(hHeld.1).old hb4, (hHeld.2.1).old hb4, (hHeld.2.2).trans ((hb4).mono (hHeld.2.2).size)⟩
     clear hK K
     try simp only [zz]
     refine tk 6 13 ?_ rfl (by kernel_rfl) (fun _ _ _ h => h) (by kernel_rfl) ?_ hHeld ?_
     rotate_left
     · intro w1 hSw; (try dsimp only at hSw); go_simp <;> with_reducible rfl
     try simp only [zz]
     refine tk 7 14 ?_ rfl (by kernel_rfl) (fun _ _ _ h => h) (by kernel_rfl) ?_ hHeld ?_
     rotate_left
     · intro w1 hSw; (try dsimp only at hSw); go_simp <;> with_reducible rfl
     try simp only [zz]
     refine wpAnyH_done (by kernel_rfl) ?_ _
     go_upto_region 3 with fail
     have HS3 := Lib.hid hHeld
     clear hHeld
     refine wp_region_held_drew (S := fun V => Row V (w.heap.size) 25 [.int .i64 a, .int .i64 b, .int .i64 c, .int .i64 d, .int .i64 x, .int .i64 y] ∧ Row V (w.heap.size + 1) 25 [.int .i64 k, .int .i64 l, .int .i64 m, .int .i64 n, .int .i64 u, .int .i64 v] ∧ Below w.heap.size w V) (by kernel_rfl) ?_ (fun hHeld => ?_)
     · exact ⟨(HS3.out.1).drew, (HS3.out.2.1).drew, (HS3.out.2.2).drew⟩
     refine tk 0 15 (.agg #[.int .i64 k, .int .i64 l, .int .i64 m, .int .i64 n, .int .i64 u, .int .i64 v]) rfl (by kernel_rfl) (fun _ _ _ h => h) (by kernel_rfl) (fun V hV => ex_rowT 25 _ rfl (w.heap.size + 1) rfl 25 [.int .i64 k, .int .i64 l, .int .i64 m, .int .i64 n, .int .i64 u, .int .i64 v] _ Tryz.underlying25 rfl (by kernel_rfl) (hV.2.1)) hHeld ?_
     try simp only [zz]
     refine tk 3 18 (.agg #[.int .i64 a, .int .i64 b, .int .i64 c, .int .i64 d, .int .i64 x, .int .i64 y]) rfl (by kernel_rfl) (fun _ _ _ h => h) (by kernel_rfl) (fun V hV => ex_rowT 25 _ rfl (w.heap.size) rfl 25 [.int .i64 a, .int .i64 b, .int .i64 c, .int .i64 d, .int .i64 x, .int .i64 y] _ Tryz.underlying25 rfl (by kernel_rfl) (hV.1)) hHeld ?_
     try simp only [zz]
     refine tk 5 20 ?_ rfl (by kernel_rfl) (fun _ _ _ h => h) (by kernel_rfl) ?_ hHeld ?_
     rotate_left
     · intro w1 hSw; (try dsimp only at hSw); go_simp <;> with_reducible rfl
     try simp only [zz]
     refine st1 1 (by kernel_rfl) rfl (fun K hK => ?_)
     go_simp
     go_at_call 14
     refine (HQ2.out _).mono ?_
     rintro e v1 ⟨rfl, hb1⟩
     try go_simp
     refine hK.out _ _ ?_ (fun hHeld => ?_)
     · exact ⟨(hHeld.1).old hb1, (hHeld.2.1).old hb1, (hHeld.2.2).trans ((hb1).mono (hHeld.2.2).size)⟩
     clear hK K
     try simp only [zz]
     refine tk 2 17 ?_ rfl (by kernel_rfl) (fun _ _ _ h => h) (by kernel_rfl) ?_ hHeld ?_
     rotate_left
     · intro w1 hSw; (try dsimp only at hSw); go_simp <;> with_reducible rfl
     try simp only [zz]
     refine st1 4 (by kernel_rfl) rfl (fun K hK => ?_)
     go_simp
     go_at_call 14
     refine (HQ1.out _).mono ?_
     rintro e v4 ⟨rfl, hb4⟩
     try go_simp
     refine hK.out _ _ ?_ (fun hHeld => ?_)
     · exact ⟨(hHeld.1).old hb4, (hHeld.2.1).old hb4, (hHeld.2.2).trans ((hb4).mono (hHeld.2.2).size)⟩
     clear hK K
     try simp only [zz]
     refine tk 6 21 ?_ rfl (by kernel_rfl) (fun _ _ _ h => h) (by kernel_rfl) ?_ hHeld ?_
     rotate_left
     · intro w1 hSw; (try dsimp only at hSw); go_simp <;> with_reducible rfl
     try simp only [zz]
     refine tk 7 22 ?_ rfl (by kernel_rfl) (fun _ _ _ h => h) (by kernel_rfl) ?_ hHeld ?_
     rotate_left
     · intro w1 hSw; (try dsimp only at hSw); go_simp <;> with_reducible rfl
     try simp only [zz]
     refine wpAnyH_done (by kernel_rfl) ?_ _
     go_wp2_with fail
     go_ret
     exact ⟨rfl, hHeld.2.2⟩
   · have d1 : decide (p * t ≤ q * 1000) = false := decide_eq_false g1
     have hc : capI p q t = 2 := (if_neg g0).trans (if_neg g1)
     rw [hc]
     clear hc g0 g1
     go_enter Tryz.func34, Tryz.ntmps34
     go_upto_region 1 with fail
     refine genT (fun V => Row V (w.heap.size) 25 [.int .i64 a, .int .i64 b, .int .i64 c, .int .i64 d, .int .i64 x, .int .i64 y] ∧ Row V (w.heap.size + 1) 25 [.int .i64 k, .int .i64 l, .int .i64 m, .int .i64 n, .int .i64 u, .int .i64 v] ∧ Below w.heap.size w V) ⟨(Row.alloc (rowAt _ _ (by first | rfl | simp only [World.size_alloc])) _), (rowAt _ _ (by first | rfl | simp only [World.size_alloc])), (((Below.refl _ _).alloc (by first | exact Nat.le_refl _ | (simp only [World.size_alloc]; omega)) _).alloc (by first | exact Nat.le_refl _ | (simp only [World.size_alloc]; omega)) _)⟩ ?_
     intro W1 s1
     have HS1 := Lib.hid s1
     clear s1
     refine wp_region_held_drew (S := fun V => Row V (w.heap.size) 25 [.int .i64 a, .int .i64 b, .int .i64 c, .int .i64 d, .int .i64 x, .int .i64 y] ∧ Row V (w.heap.size + 1) 25 [.int .i64 k, .int .i64 l, .int .i64 m, .int .i64 n, .int .i64 u, .int .i64 v] ∧ Below w.heap.size w V) (by kernel_rfl) ?_ (fun hHeld => ?_)
     · exact ⟨(HS1.out.1).drew, (HS1.out.2.1).drew, (HS1.out.2.2).drew⟩
     refine tk 0 7 (.agg #[.int .i64 a, .int .i64 b, .int .i64 c, .int .i64 d, .int .i64 x, .int .i64 y]) rfl (by kernel_rfl) (fun _ _ _ h => h) (by kernel_rfl) (fun V hV => ex_rowT 25 _ rfl (w.heap.size) rfl 25 [.int .i64 a, .int .i64 b, .int .i64 c, .int .i64 d, .int .i64 x, .int .i64 y] _ Tryz.underlying25 rfl (by kernel_rfl) (hV.1)) hHeld ?_
     try simp only [zz]
     refine tk 3 10 (.agg #[.int .i64 k, .int .i64 l, .int .i64 m, .int .i64 n, .int .i64 u, .int .i64 v]) rfl (by kernel_rfl) (fun _ _ _ h => h) (by kernel_rfl) (fun V hV => ex_rowT 25 _ rfl (w.heap.size + 1) rfl 25 [.int .i64 k, .int .i64 l, .int .i64 m, .int .i64 n, .int .i64 u, .int .i64 v] _ Tryz.underlying25 rfl (by kernel_rfl) (hV.2.1)) hHeld ?_
     try simp only [zz]
     refine tk 5 12 ?_ rfl (by kernel_rfl) (fun _ _ _ h => h) (by kernel_rfl) ?_ hHeld ?_
     rotate_left
     · intro w1 hSw; (try dsimp only at hSw); go_simp <;> with_reducible rfl
     try simp only [zz]
     refine st1 1 (by kernel_rfl) rfl (fun K hK => ?_)
     go_simp
     go_at_call 14
     refine (HQ1.out _).mono ?_
     rintro e v1 ⟨rfl, hb1⟩
     try go_simp
     refine hK.out _ _ ?_ (fun hHeld => ?_)
     · exact ⟨(hHeld.1).old hb1, (hHeld.2.1).old hb1, (hHeld.2.2).trans ((hb1).mono (hHeld.2.2).size)⟩
     clear hK K
     try simp only [zz]
     refine tk 2 9 ?_ rfl (by kernel_rfl) (fun _ _ _ h => h) (by kernel_rfl) ?_ hHeld ?_
     rotate_left
     · intro w1 hSw; (try dsimp only at hSw); go_simp <;> with_reducible rfl
     try simp only [zz]
     refine st1 4 (by kernel_rfl) rfl (fun K hK => ?_)
     go_simp
     go_at_call 14
     refine (HQ2.out _).mono ?_
     rintro e v4 ⟨rfl, hb4⟩
     try go_simp
     refine hK.out _ _ ?_ (fun hHeld => ?_)
     · exact ⟨(hHeld.1).old hb4, (hHeld.2.1).old hb4, (hHeld.2.2).trans ((hb4).mono (hHeld.2.2).size)⟩
     clear hK K
     try simp only [zz]
     refine tk 6 13 ?_ rfl (by kernel_rfl) (fun _ _ _ h => h) (by kernel_rfl) ?_ hHeld ?_
     rotate_left
     · intro w1 hSw; (try dsimp only at hSw); go_simp <;> with_reducible rfl
     try simp only [zz]
     refine tk 7 14 ?_ rfl (by kernel_rfl) (fun _ _ _ h => h) (by kernel_rfl) ?_ hHeld ?_
     rotate_left
     · intro w1 hSw; (try dsimp only at hSw); go_simp <;> with_reducible rfl
     try simp only [zz]
     refine wpAnyH_done (by kernel_rfl) ?_ _
     go_upto_region 3 with fail
     have HS3 := Lib.hid hHeld
     clear hHeld
     refine wp_region_held_drew (S := fun V => Row V (w.heap.size) 25 [.int .i64 a, .int .i64 b, .int .i64 c, .int .i64 d, .int .i64 x, .int .i64 y] ∧ Row V (w.heap.size + 1) 25 [.int .i64 k, .int .i64 l, .int .i64 m, .int .i64 n, .int .i64 u, .int .i64 v] ∧ Below w.heap.size w V) (by kernel_rfl) ?_ (fun hHeld => ?_)
     · exact ⟨(HS3.out.1).drew, (HS3.out.2.1).drew, (HS3.out.2.2).drew⟩
     refine tk 0 15 (.agg #[.int .i64 k, .int .i64 l, .int .i64 m, .int .i64 n, .int .i64 u, .int .i64 v]) rfl (by kernel_rfl) (fun _ _ _ h => h) (by kernel_rfl) (fun V hV => ex_rowT 25 _ rfl (w.heap.size + 1) rfl 25 [.int .i64 k, .int .i64 l, .int .i64 m, .int .i64 n, .int .i64 u, .int .i64 v] _ Tryz.underlying25 rfl (by kernel_rfl) (hV.2.1)) hHeld ?_
     try simp only [zz]
     refine tk 3 18 (.agg #[.int .i64 a, .int .i64 b, .int .i64 c, .int .i64 d, .int .i64 x, .int .i64 y]) rfl (by kernel_rfl) (fun _ _ _ h => h) (by kernel_rfl) (fun V hV => ex_rowT 25 _ rfl (w.heap.size) rfl 25 [.int .i64 a, .int .i64 b, .int .i64 c, .int .i64 d, .int .i64 x, .int .i64 y] _ Tryz.underlying25 rfl (by kernel_rfl) (hV.1)) hHeld ?_
     try simp only [zz]
     refine tk 5 20 ?_ rfl (by kernel_rfl) (fun _ _ _ h => h) (by kernel_rfl) ?_ hHeld ?_
     rotate_left
     · intro w1 hSw; (try dsimp only at hSw); go_simp <;> with_reducible rfl
     try simp only [zz]
     refine st1 1 (by kernel_rfl) rfl (fun K hK => ?_)
     go_simp
     go_at_call 14
     refine (HQ2.out _).mono ?_
     rintro e v1 ⟨rfl, hb1⟩
     try go_simp
     refine hK.out _ _ ?_ (fun hHeld => ?_)
     · exact ⟨(hHeld.1).old hb1, (hHeld.2.1).old hb1, (hHeld.2.2).trans ((hb1).mono (hHeld.2.2).size)⟩
     clear hK K
     try simp only [zz]
     refine tk 2 17 ?_ rfl (by kernel_rfl) (fun _ _ _ h => h) (by kernel_rfl) ?_ hHeld ?_
     rotate_left
     · intro w1 hSw; (try dsimp only at hSw); go_simp <;> with_reducible rfl
     try simp only [zz]
     refine st1 4 (by kernel_rfl) rfl (fun K hK => ?_)
     go_simp
     go_at_call 14
     refine (HQ1.out _).mono ?_
     rintro e v4 ⟨rfl, hb4⟩
     try go_simp
     refine hK.out _ _ ?_ (fun hHeld => ?_)
     · exact ⟨(hHeld.1).old hb4, (hHeld.2.1).old hb4, (hHeld.2.2).trans ((hb4).mono (hHeld.2.2).size)⟩
     clear hK K
     try simp only [zz]
     refine tk 6 21 ?_ rfl (by kernel_rfl) (fun _ _ _ h => h) (by kernel_rfl) ?_ hHeld ?_
     rotate_left
     · intro w1 hSw; (try dsimp only at hSw); go_simp <;> with_reducible rfl
     try simp only [zz]
     refine tk 7 22 ?_ rfl (by kernel_rfl) (fun _ _ _ h => h) (by kernel_rfl) ?_ hHeld ?_
     rotate_left
     · intro w1 hSw; (try dsimp only at hSw); go_simp <;> with_reducible rfl
     try simp only [zz]
     refine wpAnyH_done (by kernel_rfl) ?_ _
     go_wp2_with fail
     go_ret
     exact ⟨rfl, hHeld.2.2⟩
set_option maxRecDepth 100000 in
set_option maxHeartbeats 1000000 in
theorem mixedR_k0 (a b c d x y k l m n u v t p q : Int) (w : World) (HK : ∀ W, Calls Tryz.prog 34 #[.agg #[.int .i64 a, .int .i64 b, .int .i64 c, .int .i64 d, .int .i64 x, .int .i64 y], .agg #[.int .i64 k, .int .i64 l, .int .i64 m, .int .i64 n, .int .i64 u, .int .i64 v], .int .i64 t] W fun e w' => e = .returned (.int .i64 0) ∧ Below W.heap.size W w') (HN : ∀ W, Calls Tryz.prog 18 #[.agg #[.int .i64 a, .int .i64 b, .int .i64 c, .int .i64 d, .int .i64 x, .int .i64 y]] W fun e w' => e = .returned (.agg #[.int .i64 p, .int .i64 q]) ∧ Below W.heap.size W w') : Calls Tryz.prog 35 #[.agg #[.int .i64 a, .int .i64 b, .int .i64 c, .int .i64 d, .int .i64 x, .int .i64 y], .agg #[.int .i64 k, .int .i64 l, .int .i64 m, .int .i64 n, .int .i64 u, .int .i64 v], .int .i64 t] w fun e w' => e = .returned (.agg #[.int .i64 p, .int .i64 q]) ∧ Below w.heap.size w w' := by
 have HK := Lib.hid HK; have HN := Lib.hid HN
 go_enter Tryz.func35, Tryz.ntmps35
 go_upto_region 1 with fail
 refine genT (fun V => Row V (w.heap.size) 25 [.int .i64 a, .int .i64 b, .int .i64 c, .int .i64 d, .int .i64 x, .int .i64 y] ∧ Row V (w.heap.size + 1) 25 [.int .i64 k, .int .i64 l, .int .i64 m, .int .i64 n, .int .i64 u, .int .i64 v] ∧ Row V (w.heap.size + 1 + 1) 28 [.int .i64 0, .int .i64 0] ∧ Below w.heap.size w V) ⟨(Row.alloc (Row.alloc (rowAt _ _ (by first | rfl | simp only [World.size_alloc])) _) _), (Row.alloc (rowAt _ _ (by first | rfl | simp only [World.size_alloc])) _), (rowAt _ _ (by first | rfl | simp only [World.size_alloc])), ((((Below.refl _ _).alloc (by first | exact Nat.le_refl _ | (simp only [World.size_alloc]; omega)) _).alloc (by first | exact Nat.le_refl _ | (simp only [World.size_alloc]; omega)) _).alloc (by first | exact Nat.le_refl _ | (simp only [World.size_alloc]; omega)) _)⟩ ?_
 intro W1 s1
 have HS1 := Lib.hid s1
 clear s1
 go_wp2_with (first | (refine wpList_load_row rfl 25 _ rfl (w.heap.size) rfl 25 #[.int .i64 a, .int .i64 b, .int .i64 c, .int .i64 d, .int .i64 x, .int .i64 y] (0, 0) _ HS1.out.1 Tryz.underlying25 rfl ?_ ?_; (kernel_rfl)) | (refine wpList_load_row rfl 25 _ rfl (w.heap.size + 1) rfl 25 #[.int .i64 k, .int .i64 l, .int .i64 m, .int .i64 n, .int .i64 u, .int .i64 v] (0, 0) _ HS1.out.2.1 Tryz.underlying25 rfl ?_ ?_; (kernel_rfl)) | (go_at_call 34; refine (HK.out _).mono ?_; rintro e w2 ⟨rfl, hb_w2⟩; replace HS1 : Hid (Row w2 (w.heap.size) 25 [.int .i64 a, .int .i64 b, .int .i64 c, .int .i64 d, .int .i64 x, .int .i64 y] ∧ Row w2 (w.heap.size + 1) 25 [.int .i64 k, .int .i64 l, .int .i64 m, .int .i64 n, .int .i64 u, .int .i64 v] ∧ Row w2 (w.heap.size + 1 + 1) 28 [.int .i64 0, .int .i64 0] ∧ Below w.heap.size w w2) := ⟨(HS1.out.1).old hb_w2, (HS1.out.2.1).old hb_w2, (HS1.out.2.2.1).old hb_w2, (HS1.out.2.2.2).trans (hb_w2.mono (HS1.out.2.2.2).size)⟩; clear hb_w2) | (go_at_call 18; refine (HN.out _).mono ?_; rintro e w3 ⟨rfl, hb_w3⟩; replace HS1 : Hid (Row w3 (w.heap.size) 25 [.int .i64 a, .int .i64 b, .int .i64 c, .int .i64 d, .int .i64 x, .int .i64 y] ∧ Row w3 (w.heap.size + 1) 25 [.int .i64 k, .int .i64 l, .int .i64 m, .int .i64 n, .int .i64 u, .int .i64 v] ∧ Row w3 (w.heap.size + 1 + 1) 28 [.int .i64 0, .int .i64 0] ∧ Below w.heap.size w w3) := ⟨(HS1.out.1).old hb_w3, (HS1.out.2.1).old hb_w3, (HS1.out.2.2.1).old hb_w3, (HS1.out.2.2.2).trans (hb_w3.mono (HS1.out.2.2.2).size)⟩; clear hb_w3) | (refine wpList_store_row rfl 28 _ _ rfl (w.heap.size + 1 + 1) #[.int .i64 p, .int .i64 q] rfl rfl 28 _ HS1.out.2.2.1 ?_ ?_ ?_ ?_; (kernel_rfl); (rfl); (simp [Value.oneCell'])))
 refine bodyPost_ret (results_rowA rfl _ _ (w.heap.size + 1 + 1) 28 #[.int .i64 p, .int .i64 q] (0, 0) _ rfl (HS1.out.2.2.1.setRow [.int .i64 p, .int .i64 q]) Tryz.underlying28 rfl (by kernel_rfl)) rfl ⟨rfl, Below.setRow HS1.out.2.2.2 (by omega) _⟩
set_option maxRecDepth 100000 in
set_option maxHeartbeats 1000000 in
theorem mixedR_k1 (a b c d x y k l m n u v t p q : Int) (w : World) (HK : ∀ W, Calls Tryz.prog 34 #[.agg #[.int .i64 a, .int .i64 b, .int .i64 c, .int .i64 d, .int .i64 x, .int .i64 y], .agg #[.int .i64 k, .int .i64 l, .int .i64 m, .int .i64 n, .int .i64 u, .int .i64 v], .int .i64 t] W fun e w' => e = .returned (.int .i64 1) ∧ Below W.heap.size W w') (HN : ∀ W, Calls Tryz.prog 18 #[.agg #[.int .i64 k, .int .i64 l, .int .i64 m, .int .i64 n, .int .i64 u, .int .i64 v]] W fun e w' => e = .returned (.agg #[.int .i64 p, .int .i64 q]) ∧ Below W.heap.size W w') : Calls Tryz.prog 35 #[.agg #[.int .i64 a, .int .i64 b, .int .i64 c, .int .i64 d, .int .i64 x, .int .i64 y], .agg #[.int .i64 k, .int .i64 l, .int .i64 m, .int .i64 n, .int .i64 u, .int .i64 v], .int .i64 t] w fun e w' => e = .returned (.agg #[.int .i64 p, .int .i64 q]) ∧ Below w.heap.size w w' := by
 have HK := Lib.hid HK; have HN := Lib.hid HN
 go_enter Tryz.func35, Tryz.ntmps35
 go_upto_region 1 with fail
 refine genT (fun V => Row V (w.heap.size) 25 [.int .i64 a, .int .i64 b, .int .i64 c, .int .i64 d, .int .i64 x, .int .i64 y] ∧ Row V (w.heap.size + 1) 25 [.int .i64 k, .int .i64 l, .int .i64 m, .int .i64 n, .int .i64 u, .int .i64 v] ∧ Row V (w.heap.size + 1 + 1) 28 [.int .i64 0, .int .i64 0] ∧ Below w.heap.size w V) ⟨(Row.alloc (Row.alloc (rowAt _ _ (by first | rfl | simp only [World.size_alloc])) _) _), (Row.alloc (rowAt _ _ (by first | rfl | simp only [World.size_alloc])) _), (rowAt _ _ (by first | rfl | simp only [World.size_alloc])), ((((Below.refl _ _).alloc (by first | exact Nat.le_refl _ | (simp only [World.size_alloc]; omega)) _).alloc (by first | exact Nat.le_refl _ | (simp only [World.size_alloc]; omega)) _).alloc (by first | exact Nat.le_refl _ | (simp only [World.size_alloc]; omega)) _)⟩ ?_
 intro W1 s1
 have HS1 := Lib.hid s1
 clear s1
 go_wp2_with (first | (refine wpList_load_row rfl 25 _ rfl (w.heap.size) rfl 25 #[.int .i64 a, .int .i64 b, .int .i64 c, .int .i64 d, .int .i64 x, .int .i64 y] (0, 0) _ HS1.out.1 Tryz.underlying25 rfl ?_ ?_; (kernel_rfl)) | (refine wpList_load_row rfl 25 _ rfl (w.heap.size + 1) rfl 25 #[.int .i64 k, .int .i64 l, .int .i64 m, .int .i64 n, .int .i64 u, .int .i64 v] (0, 0) _ HS1.out.2.1 Tryz.underlying25 rfl ?_ ?_; (kernel_rfl)) | (go_at_call 34; refine (HK.out _).mono ?_; rintro e w2 ⟨rfl, hb_w2⟩; replace HS1 : Hid (Row w2 (w.heap.size) 25 [.int .i64 a, .int .i64 b, .int .i64 c, .int .i64 d, .int .i64 x, .int .i64 y] ∧ Row w2 (w.heap.size + 1) 25 [.int .i64 k, .int .i64 l, .int .i64 m, .int .i64 n, .int .i64 u, .int .i64 v] ∧ Row w2 (w.heap.size + 1 + 1) 28 [.int .i64 0, .int .i64 0] ∧ Below w.heap.size w w2) := ⟨(HS1.out.1).old hb_w2, (HS1.out.2.1).old hb_w2, (HS1.out.2.2.1).old hb_w2, (HS1.out.2.2.2).trans (hb_w2.mono (HS1.out.2.2.2).size)⟩; clear hb_w2) | (go_at_call 18; refine (HN.out _).mono ?_; rintro e w3 ⟨rfl, hb_w3⟩; replace HS1 : Hid (Row w3 (w.heap.size) 25 [.int .i64 a, .int .i64 b, .int .i64 c, .int .i64 d, .int .i64 x, .int .i64 y] ∧ Row w3 (w.heap.size + 1) 25 [.int .i64 k, .int .i64 l, .int .i64 m, .int .i64 n, .int .i64 u, .int .i64 v] ∧ Row w3 (w.heap.size + 1 + 1) 28 [.int .i64 0, .int .i64 0] ∧ Below w.heap.size w w3) := ⟨(HS1.out.1).old hb_w3, (HS1.out.2.1).old hb_w3, (HS1.out.2.2.1).old hb_w3, (HS1.out.2.2.2).trans (hb_w3.mono (HS1.out.2.2.2).size)⟩; clear hb_w3) | (refine wpList_store_row rfl 28 _ _ rfl (w.heap.size + 1 + 1) #[.int .i64 p, .int .i64 q] rfl rfl 28 _ HS1.out.2.2.1 ?_ ?_ ?_ ?_; (kernel_rfl); (rfl); (simp [Value.oneCell'])))
 refine bodyPost_ret (results_rowA rfl _ _ (w.heap.size + 1 + 1) 28 #[.int .i64 p, .int .i64 q] (0, 0) _ rfl (HS1.out.2.2.1.setRow [.int .i64 p, .int .i64 q]) Tryz.underlying28 rfl (by kernel_rfl)) rfl ⟨rfl, Below.setRow HS1.out.2.2.2 (by omega) _⟩
set_option maxRecDepth 100000 in
set_option maxHeartbeats 4000000 in
theorem mixedR_k2 (a b c d x y k l m n u v t p q n1 n2 Q1 Q2 : Int) (w : World) (HK : ∀ W, Calls Tryz.prog 34 #[.agg #[.int .i64 a, .int .i64 b, .int .i64 c, .int .i64 d, .int .i64 x, .int .i64 y], .agg #[.int .i64 k, .int .i64 l, .int .i64 m, .int .i64 n, .int .i64 u, .int .i64 v], .int .i64 t] W fun e w' => e = .returned (.int .i64 2) ∧ Below W.heap.size W w') (HD1 : ∀ W, Calls Tryz.prog 79 #[.agg #[.int .i64 a, .int .i64 b, .int .i64 c, .int .i64 d, .int .i64 x, .int .i64 y]] W fun e w' => e = .returned (.int .i64 n1) ∧ Below W.heap.size W w') (HD2 : ∀ W, Calls Tryz.prog 79 #[.agg #[.int .i64 k, .int .i64 l, .int .i64 m, .int .i64 n, .int .i64 u, .int .i64 v]] W fun e w' => e = .returned (.int .i64 n2) ∧ Below W.heap.size W w') (HQ1 : ∀ W, Calls Tryz.prog 14 #[.agg #[.int .i64 a, .int .i64 b, .int .i64 c, .int .i64 d, .int .i64 x, .int .i64 y]] W fun e w' => e = .returned (.int .i64 Q1) ∧ Below W.heap.size W w') (HQ2 : ∀ W, Calls Tryz.prog 14 #[.agg #[.int .i64 k, .int .i64 l, .int .i64 m, .int .i64 n, .int .i64 u, .int .i64 v]] W fun e w' => e = .returned (.int .i64 Q2) ∧ Below W.heap.size W w') (HL : ∀ W, Calls Tryz.prog 15 #[.int .i64 (n1 + n2), .int .i64 (Q1 + Q2)] W fun e w' => e = .returned (.agg #[.int .i64 p, .int .i64 q]) ∧ Below W.heap.size W w') (bn1 : n1.natAbs ≤ 1000000000) (bn2 : n2.natAbs ≤ 1000000000) (bQ1 : 0 ≤ Q1 ∧ Q1 ≤ 1000000000) (bQ2 : 0 ≤ Q2 ∧ Q2 ≤ 1000000000) : Calls Tryz.prog 35 #[.agg #[.int .i64 a, .int .i64 b, .int .i64 c, .int .i64 d, .int .i64 x, .int .i64 y], .agg #[.int .i64 k, .int .i64 l, .int .i64 m, .int .i64 n, .int .i64 u, .int .i64 v], .int .i64 t] w fun e w' => e = .returned (.agg #[.int .i64 p, .int .i64 q]) ∧ Below w.heap.size w w' := by
 have HK := Lib.hid HK; have HD1 := Lib.hid HD1; have HD2 := Lib.hid HD2; have HQ1 := Lib.hid HQ1; have HQ2 := Lib.hid HQ2; have HL := Lib.hid HL
 have e1 : IntKind.i64.wrap (n1 + n2) = n1 + n2 := IntWalk.i64_in _ (by omega)
 have e2 : IntKind.i64.wrap (Q1 + Q2) = Q1 + Q2 := IntWalk.i64_in _ (by omega)
 clear bn1 bn2 bQ1 bQ2
 go_enter Tryz.func35, Tryz.ntmps35
 go_upto_region 1 with fail
 refine genT (fun V => Row V (w.heap.size) 25 [.int .i64 a, .int .i64 b, .int .i64 c, .int .i64 d, .int .i64 x, .int .i64 y] ∧ Row V (w.heap.size + 1) 25 [.int .i64 k, .int .i64 l, .int .i64 m, .int .i64 n, .int .i64 u, .int .i64 v] ∧ Row V (w.heap.size + 1 + 1) 28 [.int .i64 0, .int .i64 0] ∧ Below w.heap.size w V) ⟨(Row.alloc (Row.alloc (rowAt _ _ (by first | rfl | simp only [World.size_alloc])) _) _), (Row.alloc (rowAt _ _ (by first | rfl | simp only [World.size_alloc])) _), (rowAt _ _ (by first | rfl | simp only [World.size_alloc])), ((((Below.refl _ _).alloc (by first | exact Nat.le_refl _ | (simp only [World.size_alloc]; omega)) _).alloc (by first | exact Nat.le_refl _ | (simp only [World.size_alloc]; omega)) _).alloc (by first | exact Nat.le_refl _ | (simp only [World.size_alloc]; omega)) _)⟩ ?_
 intro W1 s1
 have HS1 := Lib.hid s1
 clear s1
 go_upto_region 6 with (first | (refine wpList_load_row rfl 25 _ rfl (w.heap.size) rfl 25 #[.int .i64 a, .int .i64 b, .int .i64 c, .int .i64 d, .int .i64 x, .int .i64 y] (0, 0) _ HS1.out.1 Tryz.underlying25 rfl ?_ ?_; (kernel_rfl)) | (refine wpList_load_row rfl 25 _ rfl (w.heap.size + 1) rfl 25 #[.int .i64 k, .int .i64 l, .int .i64 m, .int .i64 n, .int .i64 u, .int .i64 v] (0, 0) _ HS1.out.2.1 Tryz.underlying25 rfl ?_ ?_; (kernel_rfl)) | (go_at_call 34; refine (HK.out _).mono ?_; rintro e w2 ⟨rfl, hb_w2⟩; replace HS1 : Hid (Row w2 (w.heap.size) 25 [.int .i64 a, .int .i64 b, .int .i64 c, .int .i64 d, .int .i64 x, .int .i64 y] ∧ Row w2 (w.heap.size + 1) 25 [.int .i64 k, .int .i64 l, .int .i64 m, .int .i64 n, .int .i64 u, .int .i64 v] ∧ Row w2 (w.heap.size + 1 + 1) 28 [.int .i64 0, .int .i64 0] ∧ Below w.heap.size w w2) := ⟨(HS1.out.1).old hb_w2, (HS1.out.2.1).old hb_w2, (HS1.out.2.2.1).old hb_w2, (HS1.out.2.2.2).trans (hb_w2.mono (HS1.out.2.2.2).size)⟩; clear hb_w2))
 have HS6 : Hid (Row w2 (w.heap.size) 25 [.int .i64 a, .int .i64 b, .int .i64 c, .int .i64 d, .int .i64 x, .int .i64 y] ∧ Row w2 (w.heap.size + 1) 25 [.int .i64 k, .int .i64 l, .int .i64 m, .int .i64 n, .int .i64 u, .int .i64 v] ∧ RowN w2 (w.heap.size + 1 + 1) 28 2 ∧ Below w.heap.size w w2) := ⟨HS1.out.1, HS1.out.2.1, ⟨_, rfl, HS1.out.2.2.1⟩, HS1.out.2.2.2⟩
 clear HS1
 refine wp_region_held_drew (S := fun V => Row V (w.heap.size) 25 [.int .i64 a, .int .i64 b, .int .i64 c, .int .i64 d, .int .i64 x, .int .i64 y] ∧ Row V (w.heap.size + 1) 25 [.int .i64 k, .int .i64 l, .int .i64 m, .int .i64 n, .int .i64 u, .int .i64 v] ∧ RowN V (w.heap.size + 1 + 1) 28 2 ∧ Below w.heap.size w V) (by kernel_rfl) ?_ (fun hHeld => ?_)
 · exact ⟨(HS6.out.1).drew, (HS6.out.2.1).drew, (HS6.out.2.2.1).drew, (HS6.out.2.2.2).drew⟩
 refine tk 0 20 (.agg #[.int .i64 a, .int .i64 b, .int .i64 c, .int .i64 d, .int .i64 x, .int .i64 y]) rfl (by kernel_rfl) (fun _ _ _ h => h) (by kernel_rfl) (fun V hV => ex_rowT 25 _ rfl (w.heap.size) rfl 25 [.int .i64 a, .int .i64 b, .int .i64 c, .int .i64 d, .int .i64 x, .int .i64 y] _ Tryz.underlying25 rfl (by kernel_rfl) (hV.1)) hHeld ?_
 try simp only [zz]
 refine tk 2 22 (.agg #[.int .i64 k, .int .i64 l, .int .i64 m, .int .i64 n, .int .i64 u, .int .i64 v]) rfl (by kernel_rfl) (fun _ _ _ h => h) (by kernel_rfl) (fun V hV => ex_rowT 25 _ rfl (w.heap.size + 1) rfl 25 [.int .i64 k, .int .i64 l, .int .i64 m, .int .i64 n, .int .i64 u, .int .i64 v] _ Tryz.underlying25 rfl (by kernel_rfl) (hV.2.1)) hHeld ?_
 try simp only [zz]
 refine tk 5 25 (.agg #[.int .i64 a, .int .i64 b, .int .i64 c, .int .i64 d, .int .i64 x, .int .i64 y]) rfl (by kernel_rfl) (fun _ _ _ h => h) (by kernel_rfl) (fun V hV => ex_rowT 25 _ rfl (w.heap.size) rfl 25 [.int .i64 a, .int .i64 b, .int .i64 c, .int .i64 d, .int .i64 x, .int .i64 y] _ Tryz.underlying25 rfl (by kernel_rfl) (hV.1)) hHeld ?_
 try simp only [zz]
 refine tk 7 27 (.agg #[.int .i64 k, .int .i64 l, .int .i64 m, .int .i64 n, .int .i64 u, .int .i64 v]) rfl (by kernel_rfl) (fun _ _ _ h => h) (by kernel_rfl) (fun V hV => ex_rowT 25 _ rfl (w.heap.size + 1) rfl 25 [.int .i64 k, .int .i64 l, .int .i64 m, .int .i64 n, .int .i64 u, .int .i64 v] _ Tryz.underlying25 rfl (by kernel_rfl) (hV.2.1)) hHeld ?_
 try simp only [zz]
 refine st1 1 (by kernel_rfl) rfl (fun K hK => ?_)
 go_simp
 go_at_call 79
 refine (HD1.out _).mono ?_
 rintro e v1 ⟨rfl, hb1⟩
 try go_simp
 refine hK.out _ _ ?_ (fun hHeld => ?_)
 · exact ⟨(hHeld.1).old hb1, (hHeld.2.1).old hb1, (hHeld.2.2.1).old hb1, (hHeld.2.2.2).trans ((hb1).mono (hHeld.2.2.2).size)⟩
 clear hK K
 try simp only [zz]
 refine st1 3 (by kernel_rfl) rfl (fun K hK => ?_)
 go_simp
 go_at_call 79
 refine (HD2.out _).mono ?_
 rintro e v3 ⟨rfl, hb3⟩
 try go_simp
 refine hK.out _ _ ?_ (fun hHeld => ?_)
 · exact ⟨(hHeld.1).old hb3, (hHeld.2.1).old hb3, (hHeld.2.2.1).old hb3, (hHeld.2.2.2).trans ((hb3).mono (hHeld.2.2.2).size)⟩
 clear hK K
 try simp only [zz]
 refine tk 4 24 ?_ rfl (by kernel_rfl) (fun _ _ _ h => h) (by kernel_rfl) ?_ hHeld ?_
 rotate_left
 · intro w1 hSw; (try dsimp only at hSw); go_simp <;> with_reducible rfl
 try simp only [zz]
 refine st1 6 (by kernel_rfl) rfl (fun K hK => ?_)
 go_simp
 go_at_call 14
 refine (HQ1.out _).mono ?_
 rintro e v6 ⟨rfl, hb6⟩
 try go_simp
 refine hK.out _ _ ?_ (fun hHeld => ?_)
 · exact ⟨(hHeld.1).old hb6, (hHeld.2.1).old hb6, (hHeld.2.2.1).old hb6, (hHeld.2.2.2).trans ((hb6).mono (hHeld.2.2.2).size)⟩
 clear hK K
 try simp only [zz]
 refine st1 8 (by kernel_rfl) rfl (fun K hK => ?_)
 go_simp
 go_at_call 14
 refine (HQ2.out _).mono ?_
 rintro e v8 ⟨rfl, hb8⟩
 try go_simp
 refine hK.out _ _ ?_ (fun hHeld => ?_)
 · exact ⟨(hHeld.1).old hb8, (hHeld.2.1).old hb8, (hHeld.2.2.1).old hb8, (hHeld.2.2.2).trans ((hb8).mono (hHeld.2.2.2).size)⟩
 clear hK K
 try simp only [zz]
 refine tk 9 29 ?_ rfl (by kernel_rfl) (fun _ _ _ h => h) (by kernel_rfl) ?_ hHeld ?_
 rotate_left
 · intro w1 hSw; (try dsimp only at hSw); go_simp <;> with_reducible rfl
 try simp only [zz]
 refine st1 10 (by kernel_rfl) rfl (fun K hK => ?_)
 go_simp
 go_at_call 15
 refine (HL.out _).mono ?_
 rintro e v10 ⟨rfl, hb10⟩
 try go_simp
 refine hK.out _ _ ?_ (fun hHeld => ?_)
 · exact ⟨(hHeld.1).old hb10, (hHeld.2.1).old hb10, (hHeld.2.2.1).old hb10, (hHeld.2.2.2).trans ((hb10).mono (hHeld.2.2.2).size)⟩
 clear hK K
 try simp only [zz]
 refine st1 11 (by kernel_rfl) rfl (fun K hK => ?_)
 obtain ⟨vs, hvl, hvr⟩ := (hHeld.2.2.1)
 have hLast := hHeld
 refine step_store_row rfl 28 _ _ rfl (w.heap.size + 1 + 1) [.int .i64 p, .int .i64 q] rfl rfl 28 vs hvr (by kernel_rfl) hvl (by simp [Value.oneCell']) ?_
 refine hK.out _ _ ?_ (fun hHeld => ?_)
 · exact ⟨(hHeld.1).farRow (by omega) _, (hHeld.2.1).farRow (by omega) _, ⟨_, rfl, hvr.setRow _⟩, Below.setRow (hHeld.2.2.2) (by omega) _⟩
 clear hK K
 try simp only [zz]
 refine wpAnyH_done (by kernel_rfl) ?_ _
 go_wp2_with fail
 refine bodyPost_ret (results_rowA rfl _ _ (w.heap.size + 1 + 1) 28 #[.int .i64 p, .int .i64 q] (0, 0) _ rfl (hvr.setRow [.int .i64 p, .int .i64 q]) Tryz.underlying28 rfl (by kernel_rfl)) rfl ⟨rfl, Below.setRow hLast.2.2.2 (by omega) _⟩
end Go.Proofs.YtcaekblnioidiaaGreatDoor
