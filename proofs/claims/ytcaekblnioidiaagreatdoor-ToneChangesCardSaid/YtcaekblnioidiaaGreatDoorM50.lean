import Derived.Test.YtcaekblnioidiaaGreatDoorM44
import Derived.Test.YtcaekblnioidiaaGreatDoorM49
namespace Go.Proofs.YtcaekblnioidiaaGreatDoor
set_option linter.all false
open Go.RowKit Go.Fl
theorem bigE_ref (p q r z : Int) (hp : p = 0 ∨ p = 3) (hq : q = 0 ∨ q = 3) (hr : r = 0 ∨ r = 3) (hz : z ≠ 3) : (if (p != 0 || q != 0 || r != 0) = true then 4 else z) = bigE (firstI [p, q, r, z]) := by
 rcases hp with rfl | rfl
 · rcases hq with rfl | rfl
   · rcases hr with rfl | rfl
     · have e : firstI [0, 0, 0, z] = z := by
        by_cases h : z = 0
        · subst h; rfl
        · simp [firstI, h]
       rw [e]
       unfold bigE
       rw [if_neg hz]
       rfl
     · rfl
   · rfl
 · rfl
theorem part_two (M : Int) (p : Int × Int) : partE M p = 0 ∨ partE M p = 3 := by
 unfold partE whenI
 cases rangeB p.1 (-M) M <;> cases rangeB p.2 (-M) M <;> simp [firstI]
set_option maxRecDepth 100000 in
set_option maxHeartbeats 1000000 in
theorem timesR_any (a b c d : Int) (w : World) (h : Gs a b) (k : Gs c d) : Calls Tryz.prog 90 #[.agg #[.int .i64 a, .int .i64 b], .agg #[.int .i64 c, .int .i64 d]] w fun e w' => e = .returned (.agg #[.int .i64 (a * c - b * d), .int .i64 (a * d + b * c)]) ∧ Below w.heap.size w w' := by
 have b1 : (a * c).natAbs ≤ 2500000000000000 := by rw [Int.natAbs_mul]; exact Nat.mul_le_mul h.1 k.1
 have b2 : (b * d).natAbs ≤ 2500000000000000 := by rw [Int.natAbs_mul]; exact Nat.mul_le_mul h.2 k.2
 have b3 : (a * d).natAbs ≤ 2500000000000000 := by rw [Int.natAbs_mul]; exact Nat.mul_le_mul h.1 k.2
 have b4 : (b * c).natAbs ≤ 2500000000000000 := by rw [Int.natAbs_mul]; exact Nat.mul_le_mul h.2 k.1
 have e1 : IntKind.i64.wrap (a * c) = a * c := IntWalk.i64_in _ (by omega)
 have e2 : IntKind.i64.wrap (b * d) = b * d := IntWalk.i64_in _ (by omega)
 have e3 : IntKind.i64.wrap (a * d) = a * d := IntWalk.i64_in _ (by omega)
 have e4 : IntKind.i64.wrap (b * c) = b * c := IntWalk.i64_in _ (by omega)
 have e5 : IntKind.i64.wrap (a * c - b * d) = a * c - b * d := IntWalk.i64_in _ (by omega)
 have e6 : IntKind.i64.wrap (a * d + b * c) = a * d + b * c := IntWalk.i64_in _ (by omega)
 clear b1 b2 b3 b4 h k
 go_enter Tryz.func90, Tryz.ntmps90
 go_upto_region 1 with fail
 refine genT (fun V => Row V (w.heap.size) 23 [.int .i64 a, .int .i64 b] ∧ Row V (w.heap.size + 1) 23 [.int .i64 c, .int .i64 d] ∧ Row V (w.heap.size + 1 + 1) 23 [.int .i64 0, .int .i64 0] ∧ Below w.heap.size w V) ⟨(Row.alloc (Row.alloc (rowAt _ _ (by first | rfl | simp only [World.size_alloc])) _) _), (Row.alloc (rowAt _ _ (by first | rfl | simp only [World.size_alloc])) _), (rowAt _ _ (by first | rfl | simp only [World.size_alloc])), ((((Below.refl _ _).alloc (by first | exact Nat.le_refl _ | (simp only [World.size_alloc]; omega)) _).alloc (by first | exact Nat.le_refl _ | (simp only [World.size_alloc]; omega)) _).alloc (by first | exact Nat.le_refl _ | (simp only [World.size_alloc]; omega)) _)⟩ ?_
 intro W1 s1
 have HS1 := Lib.hid s1
 clear s1
 have c0 := HS1.out.1.cell 0; have c1 := HS1.out.1.cell 1; have d0 := HS1.out.2.1.cell 0; have d1 := HS1.out.2.1.cell 1
 simp only [List.getElem?_cons_succ, List.getElem?_cons_zero] at c0 c1 d0 d1
 go_wp2_with (refine wpList_store_row rfl 23 _ _ rfl (w.heap.size + 1 + 1) #[.int .i64 (a * c - b * d), .int .i64 (a * d + b * c)] rfl rfl 23 _ HS1.out.2.2.1 ?_ ?_ ?_ ?_; (kernel_rfl); (rfl); (simp [Value.oneCell']))
 refine bodyPost_ret (results_rowA rfl _ _ (w.heap.size + 1 + 1) 23 #[.int .i64 (a * c - b * d), .int .i64 (a * d + b * c)] (0, 0) _ rfl (HS1.out.2.2.1.setRow [.int .i64 (a * c - b * d), .int .i64 (a * d + b * c)]) Tryz.underlying23 rfl (by kernel_rfl)) rfl ⟨rfl, Below.setRow HS1.out.2.2.2 (by omega) _⟩
set_option maxRecDepth 100000 in
set_option maxHeartbeats 1000000 in
theorem plusR_any (a b c d : Int) (w : World) (h : Gs a b) (k : Gs c d) : Calls Tryz.prog 88 #[.agg #[.int .i64 a, .int .i64 b], .agg #[.int .i64 c, .int .i64 d]] w fun e w' => e = .returned (.agg #[.int .i64 (a + c), .int .i64 (b + d)]) ∧ Below w.heap.size w w' := by
 obtain ⟨b1, b2⟩ := h
 obtain ⟨b3, b4⟩ := k
 have e1 : IntKind.i64.wrap (a + c) = a + c := IntWalk.i64_in _ (by omega)
 have e2 : IntKind.i64.wrap (b + d) = b + d := IntWalk.i64_in _ (by omega)
 clear b1 b2 b3 b4
 go_enter Tryz.func88, Tryz.ntmps88
 go_upto_region 1 with fail
 refine genT (fun V => Row V (w.heap.size) 23 [.int .i64 a, .int .i64 b] ∧ Row V (w.heap.size + 1) 23 [.int .i64 c, .int .i64 d] ∧ Row V (w.heap.size + 1 + 1) 23 [.int .i64 0, .int .i64 0] ∧ Below w.heap.size w V) ⟨(Row.alloc (Row.alloc (rowAt _ _ (by first | rfl | simp only [World.size_alloc])) _) _), (Row.alloc (rowAt _ _ (by first | rfl | simp only [World.size_alloc])) _), (rowAt _ _ (by first | rfl | simp only [World.size_alloc])), ((((Below.refl _ _).alloc (by first | exact Nat.le_refl _ | (simp only [World.size_alloc]; omega)) _).alloc (by first | exact Nat.le_refl _ | (simp only [World.size_alloc]; omega)) _).alloc (by first | exact Nat.le_refl _ | (simp only [World.size_alloc]; omega)) _)⟩ ?_
 intro W1 s1
 have HS1 := Lib.hid s1
 clear s1
 have c0 := HS1.out.1.cell 0; have c1 := HS1.out.1.cell 1; have d0 := HS1.out.2.1.cell 0; have d1 := HS1.out.2.1.cell 1
 simp only [List.getElem?_cons_succ, List.getElem?_cons_zero] at c0 c1 d0 d1
 go_wp2_with (refine wpList_store_row rfl 23 _ _ rfl (w.heap.size + 1 + 1) #[.int .i64 (a + c), .int .i64 (b + d)] rfl rfl 23 _ HS1.out.2.2.1 ?_ ?_ ?_ ?_; (kernel_rfl); (rfl); (simp [Value.oneCell']))
 refine bodyPost_ret (results_rowA rfl _ _ (w.heap.size + 1 + 1) 23 #[.int .i64 (a + c), .int .i64 (b + d)] (0, 0) _ rfl (HS1.out.2.2.1.setRow [.int .i64 (a + c), .int .i64 (b + d)]) Tryz.underlying23 rfl (by kernel_rfl)) rfl ⟨rfl, Below.setRow HS1.out.2.2.2 (by omega) _⟩
set_option maxRecDepth 100000 in
set_option maxHeartbeats 1000000 in
theorem power_anyR (k : Int) (w : World) (hk : rangeB k 0 3 = false) : Calls Tryz.prog 143 #[.int .i64 k] w fun e w' => e = .returned (.agg #[.int .i64 (iR k), .int .i64 (iI k)]) ∧ Below w.heap.size w w' := by
 unfold rangeB at hk
 simp only [Bool.or_eq_false_iff, decide_eq_false_iff_not] at hk
 rcases (show k = 0 ∨ k = 1 ∨ k = 2 ∨ k = 3 by omega) with rfl | rfl | rfl | rfl
 · have hr : IntKind.i64.wrap ((0 : Int).tmod 4) = 0 := by first | rfl | decide
   go_enter Tryz.func143, Tryz.ntmps143
   go_upto_region 1 with fail
   refine genT (fun V => Row V (w.heap.size) 23 [.int .i64 0, .int .i64 0] ∧ Below w.heap.size w V) ⟨(rowAt _ _ (by first | rfl | simp only [World.size_alloc])), ((Below.refl _ _).alloc (by first | exact Nat.le_refl _ | (simp only [World.size_alloc]; omega)) _)⟩ ?_
   intro W1 s1
   have HS1 := Lib.hid s1
   clear s1
   go_wp2_with (refine wpList_store_row rfl 23 _ _ rfl (w.heap.size) #[.int .i64 (1), .int .i64 (0)] rfl rfl 23 _ HS1.out.1 ?_ ?_ ?_ ?_; (kernel_rfl); (rfl); (simp [Value.oneCell']))
   refine bodyPost_ret (results_rowA rfl _ _ (w.heap.size) 23 #[.int .i64 (1), .int .i64 (0)] (0, 0) _ rfl (HS1.out.1.setRow [.int .i64 (1), .int .i64 (0)]) Tryz.underlying23 rfl (by kernel_rfl)) rfl ⟨rfl, Below.setRow HS1.out.2 (by omega) _⟩
 · have hr : IntKind.i64.wrap ((1 : Int).tmod 4) = 1 := by first | rfl | decide
   go_enter Tryz.func143, Tryz.ntmps143
   go_upto_region 1 with fail
   refine genT (fun V => Row V (w.heap.size) 23 [.int .i64 0, .int .i64 0] ∧ Below w.heap.size w V) ⟨(rowAt _ _ (by first | rfl | simp only [World.size_alloc])), ((Below.refl _ _).alloc (by first | exact Nat.le_refl _ | (simp only [World.size_alloc]; omega)) _)⟩ ?_
   intro W1 s1
   have HS1 := Lib.hid s1
   clear s1
   go_wp2_with (refine wpList_store_row rfl 23 _ _ rfl (w.heap.size) #[.int .i64 (0), .int .i64 (1)] rfl rfl 23 _ HS1.out.1 ?_ ?_ ?_ ?_; (kernel_rfl); (rfl); (simp [Value.oneCell']))
   refine bodyPost_ret (results_rowA rfl _ _ (w.heap.size) 23 #[.int .i64 (0), .int .i64 (1)] (0, 0) _ rfl (HS1.out.1.setRow [.int .i64 (0), .int .i64 (1)]) Tryz.underlying23 rfl (by kernel_rfl)) rfl ⟨rfl, Below.setRow HS1.out.2 (by omega) _⟩
 · have hr : IntKind.i64.wrap ((2 : Int).tmod 4) = 2 := by first | rfl | decide
   go_enter Tryz.func143, Tryz.ntmps143
   go_upto_region 1 with fail
   refine genT (fun V => Row V (w.heap.size) 23 [.int .i64 0, .int .i64 0] ∧ Below w.heap.size w V) ⟨(rowAt _ _ (by first | rfl | simp only [World.size_alloc])), ((Below.refl _ _).alloc (by first | exact Nat.le_refl _ | (simp only [World.size_alloc]; omega)) _)⟩ ?_
   intro W1 s1
   have HS1 := Lib.hid s1
   clear s1
   go_wp2_with (refine wpList_store_row rfl 23 _ _ rfl (w.heap.size) #[.int .i64 (-1), .int .i64 (0)] rfl rfl 23 _ HS1.out.1 ?_ ?_ ?_ ?_; (kernel_rfl); (rfl); (simp [Value.oneCell']))
   refine bodyPost_ret (results_rowA rfl _ _ (w.heap.size) 23 #[.int .i64 (-1), .int .i64 (0)] (0, 0) _ rfl (HS1.out.1.setRow [.int .i64 (-1), .int .i64 (0)]) Tryz.underlying23 rfl (by kernel_rfl)) rfl ⟨rfl, Below.setRow HS1.out.2 (by omega) _⟩
 · have hr : IntKind.i64.wrap ((3 : Int).tmod 4) = 3 := by first | rfl | decide
   go_enter Tryz.func143, Tryz.ntmps143
   go_upto_region 1 with fail
   refine genT (fun V => Row V (w.heap.size) 23 [.int .i64 0, .int .i64 0] ∧ Below w.heap.size w V) ⟨(rowAt _ _ (by first | rfl | simp only [World.size_alloc])), ((Below.refl _ _).alloc (by first | exact Nat.le_refl _ | (simp only [World.size_alloc]; omega)) _)⟩ ?_
   intro W1 s1
   have HS1 := Lib.hid s1
   clear s1
   go_wp2_with (refine wpList_store_row rfl 23 _ _ rfl (w.heap.size) #[.int .i64 (0), .int .i64 (-1)] rfl rfl 23 _ HS1.out.1 ?_ ?_ ?_ ?_; (kernel_rfl); (rfl); (simp [Value.oneCell']))
   refine bodyPost_ret (results_rowA rfl _ _ (w.heap.size) 23 #[.int .i64 (0), .int .i64 (-1)] (0, 0) _ rfl (HS1.out.1.setRow [.int .i64 (0), .int .i64 (-1)]) Tryz.underlying23 rfl (by kernel_rfl)) rfl ⟨rfl, Below.setRow HS1.out.2 (by omega) _⟩
set_option maxRecDepth 100000 in
set_option maxHeartbeats 1000000 in
theorem turnR_any (a b k : Int) (w : World) (h : Gs a b) (hk : rangeB k 0 3 = false) : Calls Tryz.prog 89 #[.agg #[.int .i64 a, .int .i64 b], .int .i64 k] w fun e w' => e = .returned (.agg #[.int .i64 (a * iR k - b * iI k), .int .i64 (a * iI k + b * iR k)]) ∧ Below w.heap.size w w' := by
 obtain ⟨p1, hp1⟩ : ∃ p, p = a * iR k - b * iI k := ⟨_, rfl⟩
 obtain ⟨p2, hp2⟩ : ∃ p, p = a * iI k + b * iR k := ⟨_, rfl⟩
 have HP : Hid (∀ W, Calls Tryz.prog 143 #[.int .i64 k] W fun e w' => e = .returned (.agg #[.int .i64 (iR k), .int .i64 (iI k)]) ∧ Below W.heap.size W w') := fun W => power_anyR k W hk
 have HT : Hid (∀ W, Calls Tryz.prog 90 #[.agg #[.int .i64 a, .int .i64 b], .agg #[.int .i64 (iR k), .int .i64 (iI k)]] W fun e w' => e = .returned (.agg #[.int .i64 p1, .int .i64 p2]) ∧ Below W.heap.size W w') := fun W => by rw [hp1, hp2]; exact timesR_any a b (iR k) (iI k) W h (iRI k)
 rw [← hp1, ← hp2]
 obtain ⟨u, hu⟩ : ∃ u, u = iR k := ⟨_, rfl⟩
 obtain ⟨v, hv⟩ : ∃ v, v = iI k := ⟨_, rfl⟩
 rw [← hu, ← hv] at HP HT
 clear hp1 hp2 h hk hu hv
 go_enter Tryz.func89, Tryz.ntmps89
 go_upto_region 1 with fail
 refine genT (fun V => Row V (w.heap.size) 23 [.int .i64 a, .int .i64 b] ∧ Row V (w.heap.size + 1) 23 [.int .i64 0, .int .i64 0] ∧ Below w.heap.size w V) ⟨(Row.alloc (rowAt _ _ (by first | rfl | simp only [World.size_alloc])) _), (rowAt _ _ (by first | rfl | simp only [World.size_alloc])), (((Below.refl _ _).alloc (by first | exact Nat.le_refl _ | (simp only [World.size_alloc]; omega)) _).alloc (by first | exact Nat.le_refl _ | (simp only [World.size_alloc]; omega)) _)⟩ ?_
 intro W1 s1
 have HS1 : Hid (Row W1 (w.heap.size) 23 [.int .i64 a, .int .i64 b] ∧ RowN W1 (w.heap.size + 1) 23 2 ∧ Below w.heap.size w W1) := ⟨s1.1, ⟨_, rfl, s1.2.1⟩, s1.2.2⟩
 clear s1
 refine wp_region_held_drew (S := fun V => Row V (w.heap.size) 23 [.int .i64 a, .int .i64 b] ∧ RowN V (w.heap.size + 1) 23 2 ∧ Below w.heap.size w V) (by kernel_rfl) ?_ (fun hHeld => ?_)
 · exact ⟨(HS1.out.1).drew, (HS1.out.2.1).drew, (HS1.out.2.2).drew⟩
 refine tk 0 5 (.agg #[.int .i64 a, .int .i64 b]) rfl (by kernel_rfl) (fun _ _ _ h => h) (by kernel_rfl) (fun V hV => ex_rowT 23 _ rfl (w.heap.size) rfl 23 [.int .i64 a, .int .i64 b] _ Tryz.underlying23 rfl (by kernel_rfl) (hV.1)) hHeld ?_
 try simp only [zz]
 refine tk 1 6 ?_ rfl (by kernel_rfl) (fun _ _ _ h => h) (by kernel_rfl) ?_ hHeld ?_
 rotate_left
 · intro w1 hSw; (try dsimp only at hSw); go_simp <;> with_reducible rfl
 try simp only [zz]
 refine st1 2 (by kernel_rfl) rfl (fun K hK => ?_)
 go_simp
 go_at_call 143
 refine (HP.out _).mono ?_
 rintro e v2 ⟨rfl, hb2⟩
 try go_simp
 refine hK.out _ _ ?_ (fun hHeld => ?_)
 · exact ⟨(hHeld.1).old hb2, (hHeld.2.1).old hb2, (hHeld.2.2).trans ((hb2).mono (hHeld.2.2).size)⟩
 clear hK K
 try simp only [zz]
 refine st1 3 (by kernel_rfl) rfl (fun K hK => ?_)
 go_simp
 go_at_call 90
 refine (HT.out _).mono ?_
 rintro e v3 ⟨rfl, hb3⟩
 try go_simp
 refine hK.out _ _ ?_ (fun hHeld => ?_)
 · exact ⟨(hHeld.1).old hb3, (hHeld.2.1).old hb3, (hHeld.2.2).trans ((hb3).mono (hHeld.2.2).size)⟩
 clear hK K
 try simp only [zz]
 refine st1 4 (by kernel_rfl) rfl (fun K hK => ?_)
 obtain ⟨vs, hvl, hvr⟩ := (hHeld.2.1)
 have hLast := hHeld
 refine step_store_row rfl 23 _ _ rfl (w.heap.size + 1) [.int .i64 p1, .int .i64 p2] rfl rfl 23 vs hvr (by kernel_rfl) hvl (by simp [Value.oneCell']) ?_
 refine hK.out _ _ ?_ (fun hHeld => ?_)
 · exact ⟨(hHeld.1).farRow (by omega) _, ⟨_, rfl, hvr.setRow _⟩, Below.setRow (hHeld.2.2) (by omega) _⟩
 clear hK K
 try simp only [zz]
 refine wpAnyH_done (by kernel_rfl) ?_ _
 go_wp2_with fail
 refine bodyPost_ret (results_rowA rfl _ _ (w.heap.size + 1) 23 #[.int .i64 p1, .int .i64 p2] (0, 0) _ rfl (hvr.setRow [.int .i64 p1, .int .i64 p2]) Tryz.underlying23 rfl (by kernel_rfl)) rfl ⟨rfl, Below.setRow hLast.2.2 (by omega) _⟩
set_option maxRecDepth 100000 in
set_option maxHeartbeats 1000000 in
theorem addedR_any (a b c d x y k l m n u v : Int) (w : World) (h1 : Gs a b) (h2 : Gs c d) (h3 : Gs x y) (k1 : Gs k l) (k2 : Gs m n) (k3 : Gs u v) : Calls Tryz.prog 27 #[.agg #[.int .i64 a, .int .i64 b, .int .i64 c, .int .i64 d, .int .i64 x, .int .i64 y], .agg #[.int .i64 k, .int .i64 l, .int .i64 m, .int .i64 n, .int .i64 u, .int .i64 v]] w fun e w' => e = .returned (.agg #[.int .i64 (a + k), .int .i64 (b + l), .int .i64 (c + m), .int .i64 (d + n), .int .i64 (x + u), .int .i64 (y + v)]) ∧ Below w.heap.size w w' := by
 obtain ⟨p1, hp1⟩ : ∃ p, p = a + k := ⟨_, rfl⟩
 obtain ⟨p2, hp2⟩ : ∃ p, p = b + l := ⟨_, rfl⟩
 obtain ⟨p3, hp3⟩ : ∃ p, p = c + m := ⟨_, rfl⟩
 obtain ⟨p4, hp4⟩ : ∃ p, p = d + n := ⟨_, rfl⟩
 obtain ⟨p5, hp5⟩ : ∃ p, p = x + u := ⟨_, rfl⟩
 obtain ⟨p6, hp6⟩ : ∃ p, p = y + v := ⟨_, rfl⟩
 have H1 : Hid (∀ W, Calls Tryz.prog 88 #[.agg #[.int .i64 a, .int .i64 b], .agg #[.int .i64 k, .int .i64 l]] W fun e w' => e = .returned (.agg #[.int .i64 p1, .int .i64 p2]) ∧ Below W.heap.size W w') := fun W => by rw [hp1, hp2]; exact plusR_any a b k l W h1 k1
 have H2 : Hid (∀ W, Calls Tryz.prog 88 #[.agg #[.int .i64 c, .int .i64 d], .agg #[.int .i64 m, .int .i64 n]] W fun e w' => e = .returned (.agg #[.int .i64 p3, .int .i64 p4]) ∧ Below W.heap.size W w') := fun W => by rw [hp3, hp4]; exact plusR_any c d m n W h2 k2
 have H3 : Hid (∀ W, Calls Tryz.prog 88 #[.agg #[.int .i64 x, .int .i64 y], .agg #[.int .i64 u, .int .i64 v]] W fun e w' => e = .returned (.agg #[.int .i64 p5, .int .i64 p6]) ∧ Below W.heap.size W w') := fun W => by rw [hp5, hp6]; exact plusR_any x y u v W h3 k3
 rw [← hp1, ← hp2, ← hp3, ← hp4, ← hp5, ← hp6]
 clear hp1 hp2 hp3 hp4 hp5 hp6
 go_enter Tryz.func27, Tryz.ntmps27
 go_upto_region 1 with fail
 refine genT (fun V => Row V (w.heap.size) 25 [.int .i64 a, .int .i64 b, .int .i64 c, .int .i64 d, .int .i64 x, .int .i64 y] ∧ Row V (w.heap.size + 1) 25 [.int .i64 k, .int .i64 l, .int .i64 m, .int .i64 n, .int .i64 u, .int .i64 v] ∧ Row V (w.heap.size + 1 + 1) 25 [.int .i64 0, .int .i64 0, .int .i64 0, .int .i64 0, .int .i64 0, .int .i64 0] ∧ Below w.heap.size w V) ⟨(Row.alloc (Row.alloc (rowAt _ _ (by first | rfl | simp only [World.size_alloc])) _) _), (Row.alloc (rowAt _ _ (by first | rfl | simp only [World.size_alloc])) _), (rowAt _ _ (by first | rfl | simp only [World.size_alloc])), ((((Below.refl _ _).alloc (by first | exact Nat.le_refl _ | (simp only [World.size_alloc]; omega)) _).alloc (by first | exact Nat.le_refl _ | (simp only [World.size_alloc]; omega)) _).alloc (by first | exact Nat.le_refl _ | (simp only [World.size_alloc]; omega)) _)⟩ ?_
 intro W1 s1
 have HS1 : Hid (Row W1 (w.heap.size) 25 [.int .i64 a, .int .i64 b, .int .i64 c, .int .i64 d, .int .i64 x, .int .i64 y] ∧ Row W1 (w.heap.size + 1) 25 [.int .i64 k, .int .i64 l, .int .i64 m, .int .i64 n, .int .i64 u, .int .i64 v] ∧ RowN W1 (w.heap.size + 1 + 1) 25 6 ∧ Below w.heap.size w W1) := ⟨s1.1, s1.2.1, ⟨_, rfl, s1.2.2.1⟩, s1.2.2.2⟩
 clear s1
 refine wp_region_held_drew (S := fun V => Row V (w.heap.size) 25 [.int .i64 a, .int .i64 b, .int .i64 c, .int .i64 d, .int .i64 x, .int .i64 y] ∧ Row V (w.heap.size + 1) 25 [.int .i64 k, .int .i64 l, .int .i64 m, .int .i64 n, .int .i64 u, .int .i64 v] ∧ RowN V (w.heap.size + 1 + 1) 25 6 ∧ Below w.heap.size w V) (by kernel_rfl) ?_ (fun hHeld => ?_)
 · exact ⟨(HS1.out.1).drew, (HS1.out.2.1).drew, (HS1.out.2.2.1).drew, (HS1.out.2.2.2).drew⟩
 refine tk 0 5 ?_ rfl (by kernel_rfl) (fun _ _ _ h => h) (by kernel_rfl) ?_ hHeld ?_
 rotate_left
 · intro w1 hSw; (try dsimp only at hSw); go_simp <;> with_reducible rfl
 try simp only [zz]
 refine tk 1 6 (.agg #[.int .i64 a, .int .i64 b]) rfl (by kernel_rfl) (fun _ _ _ h => h) (by kernel_rfl) (fun V hV => ex_Gauss _ rfl (w.heap.size) 0 rfl ((hV.1).cell 0) ((hV.1).cell 1)) hHeld ?_
 try simp only [zz]
 refine tk 2 7 ?_ rfl (by kernel_rfl) (fun _ _ _ h => h) (by kernel_rfl) ?_ hHeld ?_
 rotate_left
 · intro w1 hSw; (try dsimp only at hSw); go_simp <;> with_reducible rfl
 try simp only [zz]
 refine tk 3 8 (.agg #[.int .i64 k, .int .i64 l]) rfl (by kernel_rfl) (fun _ _ _ h => h) (by kernel_rfl) (fun V hV => ex_Gauss _ rfl (w.heap.size + 1) 0 rfl ((hV.2.1).cell 0) ((hV.2.1).cell 1)) hHeld ?_
 try simp only [zz]
 refine tk 5 10 ?_ rfl (by kernel_rfl) (fun _ _ _ h => h) (by kernel_rfl) ?_ hHeld ?_
 rotate_left
 · intro w1 hSw; (try dsimp only at hSw); go_simp <;> with_reducible rfl
 try simp only [zz]
 refine tk 6 11 (.agg #[.int .i64 c, .int .i64 d]) rfl (by kernel_rfl) (fun _ _ _ h => h) (by kernel_rfl) (fun V hV => ex_Gauss _ rfl (w.heap.size) 2 rfl ((hV.1).cell 2) ((hV.1).cell 3)) hHeld ?_
 try simp only [zz]
 refine tk 7 12 ?_ rfl (by kernel_rfl) (fun _ _ _ h => h) (by kernel_rfl) ?_ hHeld ?_
 rotate_left
 · intro w1 hSw; (try dsimp only at hSw); go_simp <;> with_reducible rfl
 try simp only [zz]
 refine tk 8 13 (.agg #[.int .i64 m, .int .i64 n]) rfl (by kernel_rfl) (fun _ _ _ h => h) (by kernel_rfl) (fun V hV => ex_Gauss _ rfl (w.heap.size + 1) 2 rfl ((hV.2.1).cell 2) ((hV.2.1).cell 3)) hHeld ?_
 try simp only [zz]
 refine tk 10 15 ?_ rfl (by kernel_rfl) (fun _ _ _ h => h) (by kernel_rfl) ?_ hHeld ?_
 rotate_left
 · intro w1 hSw; (try dsimp only at hSw); go_simp <;> with_reducible rfl
 try simp only [zz]
 refine tk 11 16 (.agg #[.int .i64 x, .int .i64 y]) rfl (by kernel_rfl) (fun _ _ _ h => h) (by kernel_rfl) (fun V hV => ex_Gauss _ rfl (w.heap.size) 4 rfl ((hV.1).cell 4) ((hV.1).cell 5)) hHeld ?_
 try simp only [zz]
 refine tk 12 17 ?_ rfl (by kernel_rfl) (fun _ _ _ h => h) (by kernel_rfl) ?_ hHeld ?_
 rotate_left
 · intro w1 hSw; (try dsimp only at hSw); go_simp <;> with_reducible rfl
 try simp only [zz]
 refine tk 13 18 (.agg #[.int .i64 u, .int .i64 v]) rfl (by kernel_rfl) (fun _ _ _ h => h) (by kernel_rfl) (fun V hV => ex_Gauss _ rfl (w.heap.size + 1) 4 rfl ((hV.2.1).cell 4) ((hV.2.1).cell 5)) hHeld ?_
 try simp only [zz]
 refine st1 4 (by kernel_rfl) rfl (fun K hK => ?_)
 go_simp
 go_at_call 88
 refine (H1.out _).mono ?_
 rintro e v1 ⟨rfl, hb1⟩
 try go_simp
 refine hK.out _ _ ?_ (fun hHeld => ?_)
 · exact ⟨(hHeld.1).old hb1, (hHeld.2.1).old hb1, (hHeld.2.2.1).old hb1, (hHeld.2.2.2).trans ((hb1).mono (hHeld.2.2.2).size)⟩
 clear hK K
 try simp only [zz]
 refine st1 9 (by kernel_rfl) rfl (fun K hK => ?_)
 go_simp
 go_at_call 88
 refine (H2.out _).mono ?_
 rintro e v2 ⟨rfl, hb2⟩
 try go_simp
 refine hK.out _ _ ?_ (fun hHeld => ?_)
 · exact ⟨(hHeld.1).old hb2, (hHeld.2.1).old hb2, (hHeld.2.2.1).old hb2, (hHeld.2.2.2).trans ((hb2).mono (hHeld.2.2.2).size)⟩
 clear hK K
 try simp only [zz]
 refine st1 14 (by kernel_rfl) rfl (fun K hK => ?_)
 go_simp
 go_at_call 88
 refine (H3.out _).mono ?_
 rintro e v3 ⟨rfl, hb3⟩
 try go_simp
 refine hK.out _ _ ?_ (fun hHeld => ?_)
 · exact ⟨(hHeld.1).old hb3, (hHeld.2.1).old hb3, (hHeld.2.2.1).old hb3, (hHeld.2.2.2).trans ((hb3).mono (hHeld.2.2.2).size)⟩
 clear hK K
 try simp only [zz]
 refine tk 15 20 ?_ rfl (by kernel_rfl) (fun _ _ _ h => h) (by kernel_rfl) ?_ hHeld ?_
 rotate_left
 · intro w1 hSw; (try dsimp only at hSw); go_simp <;> with_reducible rfl
 try simp only [zz]
 refine st1 16 (by kernel_rfl) rfl (fun K hK => ?_)
 obtain ⟨vs, hvl, hvr⟩ := (hHeld.2.2.1)
 have hLast := hHeld
 refine step_store_row rfl 25 _ _ rfl (w.heap.size + 1 + 1) [.int .i64 p1, .int .i64 p2, .int .i64 p3, .int .i64 p4, .int .i64 p5, .int .i64 p6] rfl rfl 25 vs hvr (by kernel_rfl) hvl (by simp [Value.oneCell']) ?_
 refine hK.out _ _ ?_ (fun hHeld => ?_)
 · exact ⟨(hHeld.1).farRow (by omega) _, (hHeld.2.1).farRow (by omega) _, ⟨_, rfl, hvr.setRow _⟩, Below.setRow (hHeld.2.2.2) (by omega) _⟩
 clear hK K
 try simp only [zz]
 refine wpAnyH_done (by kernel_rfl) ?_ _
 go_wp2_with fail
 refine bodyPost_ret (results_rowA rfl _ _ (w.heap.size + 1 + 1) 25 #[.int .i64 p1, .int .i64 p2, .int .i64 p3, .int .i64 p4, .int .i64 p5, .int .i64 p6] (0, 0) _ rfl (hvr.setRow [.int .i64 p1, .int .i64 p2, .int .i64 p3, .int .i64 p4, .int .i64 p5, .int .i64 p6]) Tryz.underlying25 rfl (by kernel_rfl)) rfl ⟨rfl, Below.setRow hLast.2.2.2 (by omega) _⟩
set_option maxRecDepth 100000 in
set_option maxHeartbeats 1000000 in
theorem scaledR_any (a b c d x y k l m n : Int) (w : World) (h1 : Gs a b) (h2 : Gs c d) (h3 : Gs x y) (k1 : Gs k l) (k2 : Gs m n) : Calls Tryz.prog 30 #[.agg #[.int .i64 a, .int .i64 b, .int .i64 c, .int .i64 d, .int .i64 x, .int .i64 y], .agg #[.int .i64 k, .int .i64 l], .agg #[.int .i64 m, .int .i64 n]] w fun e w' => e = .returned (.agg #[.int .i64 (a * k - b * l), .int .i64 (a * l + b * k), .int .i64 (c * m - d * n), .int .i64 (c * n + d * m), .int .i64 (x * m - y * n), .int .i64 (x * n + y * m)]) ∧ Below w.heap.size w w' := by
 obtain ⟨p1, hp1⟩ : ∃ p, p = a * k - b * l := ⟨_, rfl⟩
 obtain ⟨p2, hp2⟩ : ∃ p, p = a * l + b * k := ⟨_, rfl⟩
 obtain ⟨p3, hp3⟩ : ∃ p, p = c * m - d * n := ⟨_, rfl⟩
 obtain ⟨p4, hp4⟩ : ∃ p, p = c * n + d * m := ⟨_, rfl⟩
 obtain ⟨p5, hp5⟩ : ∃ p, p = x * m - y * n := ⟨_, rfl⟩
 obtain ⟨p6, hp6⟩ : ∃ p, p = x * n + y * m := ⟨_, rfl⟩
 have H1 : Hid (∀ W, Calls Tryz.prog 90 #[.agg #[.int .i64 a, .int .i64 b], .agg #[.int .i64 k, .int .i64 l]] W fun e w' => e = .returned (.agg #[.int .i64 p1, .int .i64 p2]) ∧ Below W.heap.size W w') := fun W => by rw [hp1, hp2]; exact timesR_any a b k l W h1 k1
 have H2 : Hid (∀ W, Calls Tryz.prog 90 #[.agg #[.int .i64 c, .int .i64 d], .agg #[.int .i64 m, .int .i64 n]] W fun e w' => e = .returned (.agg #[.int .i64 p3, .int .i64 p4]) ∧ Below W.heap.size W w') := fun W => by rw [hp3, hp4]; exact timesR_any c d m n W h2 k2
 have H3 : Hid (∀ W, Calls Tryz.prog 90 #[.agg #[.int .i64 x, .int .i64 y], .agg #[.int .i64 m, .int .i64 n]] W fun e w' => e = .returned (.agg #[.int .i64 p5, .int .i64 p6]) ∧ Below W.heap.size W w') := fun W => by rw [hp5, hp6]; exact timesR_any x y m n W h3 k2
 rw [← hp1, ← hp2, ← hp3, ← hp4, ← hp5, ← hp6]
 clear hp1 hp2 hp3 hp4 hp5 hp6
 go_enter Tryz.func30, Tryz.ntmps30
 go_upto_region 1 with fail
 refine genT (fun V => Row V (w.heap.size) 25 [.int .i64 a, .int .i64 b, .int .i64 c, .int .i64 d, .int .i64 x, .int .i64 y] ∧ Row V (w.heap.size + 1) 23 [.int .i64 k, .int .i64 l] ∧ Row V (w.heap.size + 1 + 1) 23 [.int .i64 m, .int .i64 n] ∧ Row V (w.heap.size + 1 + 1 + 1) 25 [.int .i64 0, .int .i64 0, .int .i64 0, .int .i64 0, .int .i64 0, .int .i64 0] ∧ Below w.heap.size w V) ⟨(Row.alloc (Row.alloc (Row.alloc (rowAt _ _ (by first | rfl | simp only [World.size_alloc])) _) _) _), (Row.alloc (Row.alloc (rowAt _ _ (by first | rfl | simp only [World.size_alloc])) _) _), (Row.alloc (rowAt _ _ (by first | rfl | simp only [World.size_alloc])) _), (rowAt _ _ (by first | rfl | simp only [World.size_alloc])), (((((Below.refl _ _).alloc (by first | exact Nat.le_refl _ | (simp only [World.size_alloc]; omega)) _).alloc (by first | exact Nat.le_refl _ | (simp only [World.size_alloc]; omega)) _).alloc (by first | exact Nat.le_refl _ | (simp only [World.size_alloc]; omega)) _).alloc (by first | exact Nat.le_refl _ | (simp only [World.size_alloc]; omega)) _)⟩ ?_
 intro W1 s1
 have HS1 : Hid (Row W1 (w.heap.size) 25 [.int .i64 a, .int .i64 b, .int .i64 c, .int .i64 d, .int .i64 x, .int .i64 y] ∧ Row W1 (w.heap.size + 1) 23 [.int .i64 k, .int .i64 l] ∧ Row W1 (w.heap.size + 1 + 1) 23 [.int .i64 m, .int .i64 n] ∧ RowN W1 (w.heap.size + 1 + 1 + 1) 25 6 ∧ Below w.heap.size w W1) := ⟨s1.1, s1.2.1, s1.2.2.1, ⟨_, rfl, s1.2.2.2.1⟩, s1.2.2.2.2⟩
 clear s1
 refine wp_region_held_drew (S := fun V => Row V (w.heap.size) 25 [.int .i64 a, .int .i64 b, .int .i64 c, .int .i64 d, .int .i64 x, .int .i64 y] ∧ Row V (w.heap.size + 1) 23 [.int .i64 k, .int .i64 l] ∧ Row V (w.heap.size + 1 + 1) 23 [.int .i64 m, .int .i64 n] ∧ RowN V (w.heap.size + 1 + 1 + 1) 25 6 ∧ Below w.heap.size w V) (by kernel_rfl) ?_ (fun hHeld => ?_)
 · exact ⟨(HS1.out.1).drew, (HS1.out.2.1).drew, (HS1.out.2.2.1).drew, (HS1.out.2.2.2.1).drew, (HS1.out.2.2.2.2).drew⟩
 refine tk 0 7 ?_ rfl (by kernel_rfl) (fun _ _ _ h => h) (by kernel_rfl) ?_ hHeld ?_
 rotate_left
 · intro w1 hSw; (try dsimp only at hSw); go_simp <;> with_reducible rfl
 try simp only [zz]
 refine tk 1 8 (.agg #[.int .i64 a, .int .i64 b]) rfl (by kernel_rfl) (fun _ _ _ h => h) (by kernel_rfl) (fun V hV => ex_Gauss _ rfl (w.heap.size) 0 rfl ((hV.1).cell 0) ((hV.1).cell 1)) hHeld ?_
 try simp only [zz]
 refine tk 2 9 (.agg #[.int .i64 k, .int .i64 l]) rfl (by kernel_rfl) (fun _ _ _ h => h) (by kernel_rfl) (fun V hV => ex_rowT 23 _ rfl (w.heap.size + 1) rfl 23 [.int .i64 k, .int .i64 l] _ Tryz.underlying23 rfl (by kernel_rfl) (hV.2.1)) hHeld ?_
 try simp only [zz]
 refine tk 4 11 ?_ rfl (by kernel_rfl) (fun _ _ _ h => h) (by kernel_rfl) ?_ hHeld ?_
 rotate_left
 · intro w1 hSw; (try dsimp only at hSw); go_simp <;> with_reducible rfl
 try simp only [zz]
 refine tk 5 12 (.agg #[.int .i64 c, .int .i64 d]) rfl (by kernel_rfl) (fun _ _ _ h => h) (by kernel_rfl) (fun V hV => ex_Gauss _ rfl (w.heap.size) 2 rfl ((hV.1).cell 2) ((hV.1).cell 3)) hHeld ?_
 try simp only [zz]
 refine tk 6 13 (.agg #[.int .i64 m, .int .i64 n]) rfl (by kernel_rfl) (fun _ _ _ h => h) (by kernel_rfl) (fun V hV => ex_rowT 23 _ rfl (w.heap.size + 1 + 1) rfl 23 [.int .i64 m, .int .i64 n] _ Tryz.underlying23 rfl (by kernel_rfl) (hV.2.2.1)) hHeld ?_
 try simp only [zz]
 refine tk 8 15 ?_ rfl (by kernel_rfl) (fun _ _ _ h => h) (by kernel_rfl) ?_ hHeld ?_
 rotate_left
 · intro w1 hSw; (try dsimp only at hSw); go_simp <;> with_reducible rfl
 try simp only [zz]
 refine tk 9 16 (.agg #[.int .i64 x, .int .i64 y]) rfl (by kernel_rfl) (fun _ _ _ h => h) (by kernel_rfl) (fun V hV => ex_Gauss _ rfl (w.heap.size) 4 rfl ((hV.1).cell 4) ((hV.1).cell 5)) hHeld ?_
 try simp only [zz]
 refine tk 10 17 (.agg #[.int .i64 m, .int .i64 n]) rfl (by kernel_rfl) (fun _ _ _ h => h) (by kernel_rfl) (fun V hV => ex_rowT 23 _ rfl (w.heap.size + 1 + 1) rfl 23 [.int .i64 m, .int .i64 n] _ Tryz.underlying23 rfl (by kernel_rfl) (hV.2.2.1)) hHeld ?_
 try simp only [zz]
 refine st1 3 (by kernel_rfl) rfl (fun K hK => ?_)
 go_simp
 go_at_call 90
 refine (H1.out _).mono ?_
 rintro e v1 ⟨rfl, hb1⟩
 try go_simp
 refine hK.out _ _ ?_ (fun hHeld => ?_)
 · exact ⟨(hHeld.1).old hb1, (hHeld.2.1).old hb1, (hHeld.2.2.1).old hb1, (hHeld.2.2.2.1).old hb1, (hHeld.2.2.2.2).trans ((hb1).mono (hHeld.2.2.2.2).size)⟩
 clear hK K
 try simp only [zz]
 refine st1 7 (by kernel_rfl) rfl (fun K hK => ?_)
 go_simp
 go_at_call 90
 refine (H2.out _).mono ?_
 rintro e v2 ⟨rfl, hb2⟩
 try go_simp
 refine hK.out _ _ ?_ (fun hHeld => ?_)
 · exact ⟨(hHeld.1).old hb2, (hHeld.2.1).old hb2, (hHeld.2.2.1).old hb2, (hHeld.2.2.2.1).old hb2, (hHeld.2.2.2.2).trans ((hb2).mono (hHeld.2.2.2.2).size)⟩
 clear hK K
 try simp only [zz]
 refine st1 11 (by kernel_rfl) rfl (fun K hK => ?_)
 go_simp
 go_at_call 90
 refine (H3.out _).mono ?_
 rintro e v3 ⟨rfl, hb3⟩
 try go_simp
 refine hK.out _ _ ?_ (fun hHeld => ?_)
 · exact ⟨(hHeld.1).old hb3, (hHeld.2.1).old hb3, (hHeld.2.2.1).old hb3, (hHeld.2.2.2.1).old hb3, (hHeld.2.2.2.2).trans ((hb3).mono (hHeld.2.2.2.2).size)⟩
 clear hK K
 try simp only [zz]
 refine tk 12 19 ?_ rfl (by kernel_rfl) (fun _ _ _ h => h) (by kernel_rfl) ?_ hHeld ?_
 rotate_left
 · intro w1 hSw; (try dsimp only at hSw); go_simp <;> with_reducible rfl
 try simp only [zz]
 refine st1 13 (by kernel_rfl) rfl (fun K hK => ?_)
 obtain ⟨vs, hvl, hvr⟩ := (hHeld.2.2.2.1)
 have hLast := hHeld
 refine step_store_row rfl 25 _ _ rfl (w.heap.size + 1 + 1 + 1) [.int .i64 p1, .int .i64 p2, .int .i64 p3, .int .i64 p4, .int .i64 p5, .int .i64 p6] rfl rfl 25 vs hvr (by kernel_rfl) hvl (by simp [Value.oneCell']) ?_
 refine hK.out _ _ ?_ (fun hHeld => ?_)
 · exact ⟨(hHeld.1).farRow (by omega) _, (hHeld.2.1).farRow (by omega) _, (hHeld.2.2.1).farRow (by omega) _, ⟨_, rfl, hvr.setRow _⟩, Below.setRow (hHeld.2.2.2.2) (by omega) _⟩
 clear hK K
 try simp only [zz]
 refine wpAnyH_done (by kernel_rfl) ?_ _
 go_wp2_with fail
 refine bodyPost_ret (results_rowA rfl _ _ (w.heap.size + 1 + 1 + 1) 25 #[.int .i64 p1, .int .i64 p2, .int .i64 p3, .int .i64 p4, .int .i64 p5, .int .i64 p6] (0, 0) _ rfl (hvr.setRow [.int .i64 p1, .int .i64 p2, .int .i64 p3, .int .i64 p4, .int .i64 p5, .int .i64 p6]) Tryz.underlying25 rfl (by kernel_rfl)) rfl ⟨rfl, Below.setRow hLast.2.2.2.2 (by omega) _⟩
set_option maxRecDepth 100000 in
set_option maxHeartbeats 1000000 in
theorem turnedR_any (a b c d x y k : Int) (w : World) (h1 : Gs a b) (h2 : Gs c d) (h3 : Gs x y) (hk : rangeB k 0 3 = false) : Calls Tryz.prog 29 #[.agg #[.int .i64 a, .int .i64 b, .int .i64 c, .int .i64 d, .int .i64 x, .int .i64 y], .int .i64 k] w fun e w' => e = .returned (.agg #[.int .i64 (a * iR k - b * iI k), .int .i64 (a * iI k + b * iR k), .int .i64 (c * iR k - d * iI k), .int .i64 (c * iI k + d * iR k), .int .i64 (x * iR k - y * iI k), .int .i64 (x * iI k + y * iR k)]) ∧ Below w.heap.size w w' := by
 obtain ⟨p1, hp1⟩ : ∃ p, p = a * iR k - b * iI k := ⟨_, rfl⟩
 obtain ⟨p2, hp2⟩ : ∃ p, p = a * iI k + b * iR k := ⟨_, rfl⟩
 obtain ⟨p3, hp3⟩ : ∃ p, p = c * iR k - d * iI k := ⟨_, rfl⟩
 obtain ⟨p4, hp4⟩ : ∃ p, p = c * iI k + d * iR k := ⟨_, rfl⟩
 obtain ⟨p5, hp5⟩ : ∃ p, p = x * iR k - y * iI k := ⟨_, rfl⟩
 obtain ⟨p6, hp6⟩ : ∃ p, p = x * iI k + y * iR k := ⟨_, rfl⟩
 have H1 : Hid (∀ W, Calls Tryz.prog 89 #[.agg #[.int .i64 a, .int .i64 b], .int .i64 k] W fun e w' => e = .returned (.agg #[.int .i64 p1, .int .i64 p2]) ∧ Below W.heap.size W w') := fun W => by rw [hp1, hp2]; exact turnR_any a b k W h1 hk
 have H2 : Hid (∀ W, Calls Tryz.prog 89 #[.agg #[.int .i64 c, .int .i64 d], .int .i64 k] W fun e w' => e = .returned (.agg #[.int .i64 p3, .int .i64 p4]) ∧ Below W.heap.size W w') := fun W => by rw [hp3, hp4]; exact turnR_any c d k W h2 hk
 have H3 : Hid (∀ W, Calls Tryz.prog 89 #[.agg #[.int .i64 x, .int .i64 y], .int .i64 k] W fun e w' => e = .returned (.agg #[.int .i64 p5, .int .i64 p6]) ∧ Below W.heap.size W w') := fun W => by rw [hp5, hp6]; exact turnR_any x y k W h3 hk
 rw [← hp1, ← hp2, ← hp3, ← hp4, ← hp5, ← hp6]
 clear hp1 hp2 hp3 hp4 hp5 hp6
 go_enter Tryz.func29, Tryz.ntmps29
 go_upto_region 1 with fail
 refine genT (fun V => Row V (w.heap.size) 25 [.int .i64 a, .int .i64 b, .int .i64 c, .int .i64 d, .int .i64 x, .int .i64 y] ∧ Row V (w.heap.size + 1) 25 [.int .i64 0, .int .i64 0, .int .i64 0, .int .i64 0, .int .i64 0, .int .i64 0] ∧ Below w.heap.size w V) ⟨(Row.alloc (rowAt _ _ (by first | rfl | simp only [World.size_alloc])) _), (rowAt _ _ (by first | rfl | simp only [World.size_alloc])), (((Below.refl _ _).alloc (by first | exact Nat.le_refl _ | (simp only [World.size_alloc]; omega)) _).alloc (by first | exact Nat.le_refl _ | (simp only [World.size_alloc]; omega)) _)⟩ ?_
 intro W1 s1
 have HS1 : Hid (Row W1 (w.heap.size) 25 [.int .i64 a, .int .i64 b, .int .i64 c, .int .i64 d, .int .i64 x, .int .i64 y] ∧ RowN W1 (w.heap.size + 1) 25 6 ∧ Below w.heap.size w W1) := ⟨s1.1, ⟨_, rfl, s1.2.1⟩, s1.2.2⟩
 clear s1
 refine wp_region_held_drew (S := fun V => Row V (w.heap.size) 25 [.int .i64 a, .int .i64 b, .int .i64 c, .int .i64 d, .int .i64 x, .int .i64 y] ∧ RowN V (w.heap.size + 1) 25 6 ∧ Below w.heap.size w V) (by kernel_rfl) ?_ (fun hHeld => ?_)
 · exact ⟨(HS1.out.1).drew, (HS1.out.2.1).drew, (HS1.out.2.2).drew⟩
 refine tk 0 5 ?_ rfl (by kernel_rfl) (fun _ _ _ h => h) (by kernel_rfl) ?_ hHeld ?_
 rotate_left
 · intro w1 hSw; (try dsimp only at hSw); go_simp <;> with_reducible rfl
 try simp only [zz]
 refine tk 1 6 (.agg #[.int .i64 a, .int .i64 b]) rfl (by kernel_rfl) (fun _ _ _ h => h) (by kernel_rfl) (fun V hV => ex_Gauss _ rfl (w.heap.size) 0 rfl ((hV.1).cell 0) ((hV.1).cell 1)) hHeld ?_
 try simp only [zz]
 refine tk 2 7 ?_ rfl (by kernel_rfl) (fun _ _ _ h => h) (by kernel_rfl) ?_ hHeld ?_
 rotate_left
 · intro w1 hSw; (try dsimp only at hSw); go_simp <;> with_reducible rfl
 try simp only [zz]
 refine tk 4 9 ?_ rfl (by kernel_rfl) (fun _ _ _ h => h) (by kernel_rfl) ?_ hHeld ?_
 rotate_left
 · intro w1 hSw; (try dsimp only at hSw); go_simp <;> with_reducible rfl
 try simp only [zz]
 refine tk 5 10 (.agg #[.int .i64 c, .int .i64 d]) rfl (by kernel_rfl) (fun _ _ _ h => h) (by kernel_rfl) (fun V hV => ex_Gauss _ rfl (w.heap.size) 2 rfl ((hV.1).cell 2) ((hV.1).cell 3)) hHeld ?_
 try simp only [zz]
 refine tk 6 11 ?_ rfl (by kernel_rfl) (fun _ _ _ h => h) (by kernel_rfl) ?_ hHeld ?_
 rotate_left
 · intro w1 hSw; (try dsimp only at hSw); go_simp <;> with_reducible rfl
 try simp only [zz]
 refine tk 8 13 ?_ rfl (by kernel_rfl) (fun _ _ _ h => h) (by kernel_rfl) ?_ hHeld ?_
 rotate_left
 · intro w1 hSw; (try dsimp only at hSw); go_simp <;> with_reducible rfl
 try simp only [zz]
 refine tk 9 14 (.agg #[.int .i64 x, .int .i64 y]) rfl (by kernel_rfl) (fun _ _ _ h => h) (by kernel_rfl) (fun V hV => ex_Gauss _ rfl (w.heap.size) 4 rfl ((hV.1).cell 4) ((hV.1).cell 5)) hHeld ?_
 try simp only [zz]
 refine tk 10 15 ?_ rfl (by kernel_rfl) (fun _ _ _ h => h) (by kernel_rfl) ?_ hHeld ?_
 rotate_left
 · intro w1 hSw; (try dsimp only at hSw); go_simp <;> with_reducible rfl
 try simp only [zz]
 refine st1 3 (by kernel_rfl) rfl (fun K hK => ?_)
 go_simp
 go_at_call 89
 refine (H1.out _).mono ?_
 rintro e v1 ⟨rfl, hb1⟩
 try go_simp
 refine hK.out _ _ ?_ (fun hHeld => ?_)
 · exact ⟨(hHeld.1).old hb1, (hHeld.2.1).old hb1, (hHeld.2.2).trans ((hb1).mono (hHeld.2.2).size)⟩
 clear hK K
 try simp only [zz]
 refine st1 7 (by kernel_rfl) rfl (fun K hK => ?_)
 go_simp
 go_at_call 89
 refine (H2.out _).mono ?_
 rintro e v2 ⟨rfl, hb2⟩
 try go_simp
 refine hK.out _ _ ?_ (fun hHeld => ?_)
 · exact ⟨(hHeld.1).old hb2, (hHeld.2.1).old hb2, (hHeld.2.2).trans ((hb2).mono (hHeld.2.2).size)⟩
 clear hK K
 try simp only [zz]
 refine st1 11 (by kernel_rfl) rfl (fun K hK => ?_)
 go_simp
 go_at_call 89
 refine (H3.out _).mono ?_
 rintro e v3 ⟨rfl, hb3⟩
 try go_simp
 refine hK.out _ _ ?_ (fun hHeld => ?_)
 · exact ⟨(hHeld.1).old hb3, (hHeld.2.1).old hb3, (hHeld.2.2).trans ((hb3).mono (hHeld.2.2).size)⟩
 clear hK K
 try simp only [zz]
 refine tk 12 17 ?_ rfl (by kernel_rfl) (fun _ _ _ h => h) (by kernel_rfl) ?_ hHeld ?_
 rotate_left
 · intro w1 hSw; (try dsimp only at hSw); go_simp <;> with_reducible rfl
 try simp only [zz]
 refine st1 13 (by kernel_rfl) rfl (fun K hK => ?_)
 obtain ⟨vs, hvl, hvr⟩ := (hHeld.2.1)
 have hLast := hHeld
 refine step_store_row rfl 25 _ _ rfl (w.heap.size + 1) [.int .i64 p1, .int .i64 p2, .int .i64 p3, .int .i64 p4, .int .i64 p5, .int .i64 p6] rfl rfl 25 vs hvr (by kernel_rfl) hvl (by simp [Value.oneCell']) ?_
 refine hK.out _ _ ?_ (fun hHeld => ?_)
 · exact ⟨(hHeld.1).farRow (by omega) _, ⟨_, rfl, hvr.setRow _⟩, Below.setRow (hHeld.2.2) (by omega) _⟩
 clear hK K
 try simp only [zz]
 refine wpAnyH_done (by kernel_rfl) ?_ _
 go_wp2_with fail
 refine bodyPost_ret (results_rowA rfl _ _ (w.heap.size + 1) 25 #[.int .i64 p1, .int .i64 p2, .int .i64 p3, .int .i64 p4, .int .i64 p5, .int .i64 p6] (0, 0) _ rfl (hvr.setRow [.int .i64 p1, .int .i64 p2, .int .i64 p3, .int .i64 p4, .int .i64 p5, .int .i64 p6]) Tryz.underlying25 rfl (by kernel_rfl)) rfl ⟨rfl, Below.setRow hLast.2.2 (by omega) _⟩
set_option maxRecDepth 100000 in
set_option maxHeartbeats 1000000 in
theorem checkTurnR_any (k : Int) (w : World) : Calls Tryz.prog 25 #[.int .i64 k] w fun e w' => e = .returned (.int .i64 (whenI (rangeB k 0 3) 3)) ∧ w = w' := by
 go_enter Tryz.func25, Tryz.ntmps25
 go_wp2_with (go_at_call 40; refine (checkRange_any _ _ _ _).mono ?_; rintro e w' ⟨rfl, rfl⟩)
 go_ret
 exact ⟨rfl, rfl⟩
set_option maxRecDepth 100000 in
set_option maxHeartbeats 1000000 in
theorem checkFactorsR_any (k l m n : Int) (w : World) : Calls Tryz.prog 26 #[.agg #[.int .i64 k, .int .i64 l], .agg #[.int .i64 m, .int .i64 n]] w fun e w' => e = .returned (.int .i64 (firstI [partE 1000 (k, l), whenI (k == 0 && l == 0) 6, partE 1000 (m, n)])) ∧ Below w.heap.size w w' := by
 obtain ⟨P1, hP1⟩ : ∃ P, P = partE 1000 (k, l) := ⟨_, rfl⟩
 obtain ⟨P2, hP2⟩ : ∃ P, P = partE 1000 (m, n) := ⟨_, rfl⟩
 obtain ⟨zb, hzb⟩ : ∃ zb, zb = (k == 0 && l == 0) := ⟨_, rfl⟩
 have HC1 : Hid (∀ W, Calls Tryz.prog 73 #[.agg #[.int .i64 k, .int .i64 l], .int .i64 1000] W fun e w' => e = .returned (.int .i64 P1) ∧ Below W.heap.size W w') := fun W => by rw [hP1]; exact checkPartR_any k l 1000 W (by decide)
 have HC2 : Hid (∀ W, Calls Tryz.prog 73 #[.agg #[.int .i64 m, .int .i64 n], .int .i64 1000] W fun e w' => e = .returned (.int .i64 P2) ∧ Below W.heap.size W w') := fun W => by rw [hP2]; exact checkPartR_any m n 1000 W (by decide)
 have HZ : Hid (∀ W, Calls Tryz.prog 75 #[.agg #[.int .i64 k, .int .i64 l]] W fun e w' => e = .returned (.bool zb) ∧ Below W.heap.size W w') := fun W => by rw [hzb]; exact zeroR_any k l W
 rw [← hP1, ← hP2, ← hzb]
 clear hP1 hP2 hzb
 go_enter Tryz.func26, Tryz.ntmps26
 go_upto_region 1 with fail
 refine genT (fun V => Row V (w.heap.size) 23 [.int .i64 k, .int .i64 l] ∧ Row V (w.heap.size + 1) 23 [.int .i64 m, .int .i64 n] ∧ Below w.heap.size w V) ⟨(Row.alloc (rowAt _ _ (by first | rfl | simp only [World.size_alloc])) _), (rowAt _ _ (by first | rfl | simp only [World.size_alloc])), (((Below.refl _ _).alloc (by first | exact Nat.le_refl _ | (simp only [World.size_alloc]; omega)) _).alloc (by first | exact Nat.le_refl _ | (simp only [World.size_alloc]; omega)) _)⟩ ?_
 intro W1 s1
 have HS1 := Lib.hid s1
 clear s1
 refine wp_region_held_drew (S := fun V => Row V (w.heap.size) 23 [.int .i64 k, .int .i64 l] ∧ Row V (w.heap.size + 1) 23 [.int .i64 m, .int .i64 n] ∧ Below w.heap.size w V) (by kernel_rfl) ?_ (fun hHeld => ?_)
 · exact ⟨(HS1.out.1).drew, (HS1.out.2.1).drew, (HS1.out.2.2).drew⟩
 refine tk 0 5 (.agg #[.int .i64 k, .int .i64 l]) rfl (by kernel_rfl) (fun _ _ _ h => h) (by kernel_rfl) (fun V hV => ex_rowT 23 _ rfl (w.heap.size) rfl 23 [.int .i64 k, .int .i64 l] _ Tryz.underlying23 rfl (by kernel_rfl) (hV.1)) hHeld ?_
 try simp only [zz]
 refine tk 2 7 (.agg #[.int .i64 k, .int .i64 l]) rfl (by kernel_rfl) (fun _ _ _ h => h) (by kernel_rfl) (fun V hV => ex_rowT 23 _ rfl (w.heap.size) rfl 23 [.int .i64 k, .int .i64 l] _ Tryz.underlying23 rfl (by kernel_rfl) (hV.1)) hHeld ?_
 try simp only [zz]
 refine tk 5 10 (.agg #[.int .i64 m, .int .i64 n]) rfl (by kernel_rfl) (fun _ _ _ h => h) (by kernel_rfl) (fun V hV => ex_rowT 23 _ rfl (w.heap.size + 1) rfl 23 [.int .i64 m, .int .i64 n] _ Tryz.underlying23 rfl (by kernel_rfl) (hV.2.1)) hHeld ?_
 try simp only [zz]
 refine st1 1 (by kernel_rfl) rfl (fun K hK => ?_)
 go_simp
 go_at_call 73
 refine (HC1.out _).mono ?_
 rintro e v1 ⟨rfl, hb1⟩
 try go_simp
 refine hK.out _ _ ?_ (fun hHeld => ?_)
 · exact ⟨(hHeld.1).old hb1, (hHeld.2.1).old hb1, (hHeld.2.2).trans ((hb1).mono (hHeld.2.2).size)⟩
 clear hK K
 try simp only [zz]
 refine st1 3 (by kernel_rfl) rfl (fun K hK => ?_)
 go_simp
 go_at_call 75
 refine (HZ.out _).mono ?_
 rintro e v3 ⟨rfl, hb3⟩
 try go_simp
 refine hK.out _ _ ?_ (fun hHeld => ?_)
 · exact ⟨(hHeld.1).old hb3, (hHeld.2.1).old hb3, (hHeld.2.2).trans ((hb3).mono (hHeld.2.2).size)⟩
 clear hK K
 try simp only [zz]
 refine st1 4 (by kernel_rfl) rfl (fun K hK => ?_)
 go_simp
 go_at_call 74
 refine (when_any zb 6 _).mono ?_
 rintro e v4 ⟨rfl, rfl⟩
 try go_simp
 refine hK.out _ _ ?_ (fun hHeld => ?_)
 · exact hHeld
 clear hK K
 try simp only [zz]
 refine st1 6 (by kernel_rfl) rfl (fun K hK => ?_)
 go_simp
 go_at_call 73
 refine (HC2.out _).mono ?_
 rintro e v6 ⟨rfl, hb6⟩
 try go_simp
 refine hK.out _ _ ?_ (fun hHeld => ?_)
 · exact ⟨(hHeld.1).old hb6, (hHeld.2.1).old hb6, (hHeld.2.2).trans ((hb6).mono (hHeld.2.2).size)⟩
 clear hK K
 try simp only [zz]
 refine st1 7 (by kernel_rfl) rfl (fun K hK => ?_)
 go_simp
 refine hK.out _ _ ?_ (fun hHeld => ?_)
 · exact ⟨(hHeld.1).old ((Below.refl _ _).alloc (Nat.le_refl _) _), (hHeld.2.1).old ((Below.refl _ _).alloc (Nat.le_refl _) _), (hHeld.2.2).trans ((((Below.refl _ _).alloc (Nat.le_refl _) _)).mono (hHeld.2.2).size)⟩
 clear hK K
 try simp only [zz]
 refine st1 8 (by kernel_rfl) rfl (fun K hK => ?_)
 go_simp
 go_at_call 24
 refine (first_any _ _ _ [P1, whenI zb 6, P2] _ ?_ rfl (by simp)).mono ?_
 · exact Rd.newT (t := 3)
 rintro e v99 ⟨rfl, rfl⟩
 try go_simp
 refine hK.out _ _ ?_ (fun hHeld => ?_)
 · exact hHeld
 clear hK K
 try simp only [zz]
 refine tk 9 4 ?_ rfl (by kernel_rfl) (fun _ _ _ h => h) (by kernel_rfl) ?_ hHeld ?_
 rotate_left
 · intro w1 hSw; (try dsimp only at hSw); go_simp <;> with_reducible rfl
 try simp only [zz]
 refine wpAnyH_done (by kernel_rfl) ?_ _
 go_wp2_with fail
 go_ret
 exact ⟨rfl, hHeld.2.2⟩
theorem when6 (zb : Bool) : whenI zb 6 ≠ 3 := by cases zb <;> decide
set_option maxRecDepth 100000 in
set_option maxHeartbeats 8000000 in
theorem checkSumR_any (a b c d x y : Int) (w : World) : Calls Tryz.prog 28 #[.agg #[.int .i64 a, .int .i64 b, .int .i64 c, .int .i64 d, .int .i64 x, .int .i64 y]] w fun e w' => e = .returned (.int .i64 (bigE (sigE a b c d x y))) ∧ Below w.heap.size w w' := by
 rw [← sigE_ref, ← bigE_ref _ _ _ _ (part_two _ _) (part_two _ _) (part_two _ _) (when6 _)]
 obtain ⟨P1, hP1⟩ : ∃ P, P = partE 10000 (a, b) := ⟨_, rfl⟩
 obtain ⟨P2, hP2⟩ : ∃ P, P = partE 10000 (c, d) := ⟨_, rfl⟩
 obtain ⟨P3, hP3⟩ : ∃ P, P = partE 10000 (x, y) := ⟨_, rfl⟩
 obtain ⟨zb, hzb⟩ : ∃ zb, zb = (a == 0 && b == 0) := ⟨_, rfl⟩
 have HC1 : Hid (∀ W, Calls Tryz.prog 73 #[.agg #[.int .i64 a, .int .i64 b], .int .i64 10000] W fun e w' => e = .returned (.int .i64 P1) ∧ Below W.heap.size W w') := fun W => by rw [hP1]; exact checkPartR_any a b 10000 W (by decide)
 have HC2 : Hid (∀ W, Calls Tryz.prog 73 #[.agg #[.int .i64 c, .int .i64 d], .int .i64 10000] W fun e w' => e = .returned (.int .i64 P2) ∧ Below W.heap.size W w') := fun W => by rw [hP2]; exact checkPartR_any c d 10000 W (by decide)
 have HC3 : Hid (∀ W, Calls Tryz.prog 73 #[.agg #[.int .i64 x, .int .i64 y], .int .i64 10000] W fun e w' => e = .returned (.int .i64 P3) ∧ Below W.heap.size W w') := fun W => by rw [hP3]; exact checkPartR_any x y 10000 W (by decide)
 have HZ : Hid (∀ W, Calls Tryz.prog 75 #[.agg #[.int .i64 a, .int .i64 b]] W fun e w' => e = .returned (.bool zb) ∧ Below W.heap.size W w') := fun W => by rw [hzb]; exact zeroR_any a b W
 rw [← hP1, ← hP2, ← hP3, ← hzb]
 clear hP1 hP2 hP3 hzb
 cases h1 : (P1 != 0) with
 | true =>
   have HR : Hid ((if (true || P2 != 0 || P3 != 0) = true then (4 : Int) else whenI zb 6) = 4) := rfl
   go_enter Tryz.func28, Tryz.ntmps28
   go_upto_region 1 with fail
   refine genT (fun V => Row V (w.heap.size) 25 [.int .i64 a, .int .i64 b, .int .i64 c, .int .i64 d, .int .i64 x, .int .i64 y] ∧ Below w.heap.size w V) ⟨(rowAt _ _ (by first | rfl | simp only [World.size_alloc])), ((Below.refl _ _).alloc (by first | exact Nat.le_refl _ | (simp only [World.size_alloc]; omega)) _)⟩ ?_
   intro W1 s1
   have HS1 := Lib.hid s1
   clear s1
   have c0 := HS1.out.1.cell 0; have c1 := HS1.out.1.cell 1; have c2 := HS1.out.1.cell 2; have c3 := HS1.out.1.cell 3; have c4 := HS1.out.1.cell 4; have c5 := HS1.out.1.cell 5; simp only [List.getElem?_cons_succ, List.getElem?_cons_zero] at c0 c1 c2 c3 c4 c5
   go_wp2_with fail
   refine (HC1.out _).mono ?_
   rintro e w1 ⟨rfl, hb1⟩
   have HS2 : Hid (Row w1 (w.heap.size) 25 [.int .i64 a, .int .i64 b, .int .i64 c, .int .i64 d, .int .i64 x, .int .i64 y] ∧ Below w.heap.size w w1) := ⟨(HS1.out.1).old hb1, (HS1.out.2).trans (hb1.mono (HS1.out.2).size)⟩
   clear hb1 HS1 c0 c1 c2 c3 c4 c5
   have c0 := HS2.out.1.cell 0; have c1 := HS2.out.1.cell 1; have c2 := HS2.out.1.cell 2; have c3 := HS2.out.1.cell 3; have c4 := HS2.out.1.cell 4; have c5 := HS2.out.1.cell 5; simp only [List.getElem?_cons_succ, List.getElem?_cons_zero] at c0 c1 c2 c3 c4 c5
   go_wp2_with fail
   go_ret
   exact ⟨by first | rfl | (rw [HR.out]; rfl), HS2.out.2⟩
 | false =>
   cases h2 : (P2 != 0) with
   | true =>
     have HR : Hid ((if (false || true || P3 != 0) = true then (4 : Int) else whenI zb 6) = 4) := rfl
     go_enter Tryz.func28, Tryz.ntmps28
     go_upto_region 1 with fail
     refine genT (fun V => Row V (w.heap.size) 25 [.int .i64 a, .int .i64 b, .int .i64 c, .int .i64 d, .int .i64 x, .int .i64 y] ∧ Below w.heap.size w V) ⟨(rowAt _ _ (by first | rfl | simp only [World.size_alloc])), ((Below.refl _ _).alloc (by first | exact Nat.le_refl _ | (simp only [World.size_alloc]; omega)) _)⟩ ?_
     intro W1 s1
     have HS1 := Lib.hid s1
     clear s1
     have c0 := HS1.out.1.cell 0; have c1 := HS1.out.1.cell 1; have c2 := HS1.out.1.cell 2; have c3 := HS1.out.1.cell 3; have c4 := HS1.out.1.cell 4; have c5 := HS1.out.1.cell 5; simp only [List.getElem?_cons_succ, List.getElem?_cons_zero] at c0 c1 c2 c3 c4 c5
     go_wp2_with fail
     refine (HC1.out _).mono ?_
     rintro e w1 ⟨rfl, hb1⟩
     have HS2 : Hid (Row w1 (w.heap.size) 25 [.int .i64 a, .int .i64 b, .int .i64 c, .int .i64 d, .int .i64 x, .int .i64 y] ∧ Below w.heap.size w w1) := ⟨(HS1.out.1).old hb1, (HS1.out.2).trans (hb1.mono (HS1.out.2).size)⟩
     clear hb1 HS1 c0 c1 c2 c3 c4 c5
     have c0 := HS2.out.1.cell 0; have c1 := HS2.out.1.cell 1; have c2 := HS2.out.1.cell 2; have c3 := HS2.out.1.cell 3; have c4 := HS2.out.1.cell 4; have c5 := HS2.out.1.cell 5; simp only [List.getElem?_cons_succ, List.getElem?_cons_zero] at c0 c1 c2 c3 c4 c5
     go_wp2_with fail
     refine (HC2.out _).mono ?_
     rintro e w2 ⟨rfl, hb2⟩
     have HS3 : Hid (Row w2 (w.heap.size) 25 [.int .i64 a, .int .i64 b, .int .i64 c, .int .i64 d, .int .i64 x, .int .i64 y] ∧ Below w.heap.size w w2) := ⟨(HS2.out.1).old hb2, (HS2.out.2).trans (hb2.mono (HS2.out.2).size)⟩
     clear hb2 HS2 c0 c1 c2 c3 c4 c5
     have c0 := HS3.out.1.cell 0; have c1 := HS3.out.1.cell 1; have c2 := HS3.out.1.cell 2; have c3 := HS3.out.1.cell 3; have c4 := HS3.out.1.cell 4; have c5 := HS3.out.1.cell 5; simp only [List.getElem?_cons_succ, List.getElem?_cons_zero] at c0 c1 c2 c3 c4 c5
     go_wp2_with fail
     go_ret
     exact ⟨by first | rfl | (rw [HR.out]; rfl), HS3.out.2⟩
   | false =>
     cases h3 : (P3 != 0) with
     | true =>
       have HR : Hid ((if (false || false || true) = true then (4 : Int) else whenI zb 6) = 4) := rfl
       go_enter Tryz.func28, Tryz.ntmps28
       go_upto_region 1 with fail
       refine genT (fun V => Row V (w.heap.size) 25 [.int .i64 a, .int .i64 b, .int .i64 c, .int .i64 d, .int .i64 x, .int .i64 y] ∧ Below w.heap.size w V) ⟨(rowAt _ _ (by first | rfl | simp only [World.size_alloc])), ((Below.refl _ _).alloc (by first | exact Nat.le_refl _ | (simp only [World.size_alloc]; omega)) _)⟩ ?_
       intro W1 s1
       have HS1 := Lib.hid s1
       clear s1
       have c0 := HS1.out.1.cell 0; have c1 := HS1.out.1.cell 1; have c2 := HS1.out.1.cell 2; have c3 := HS1.out.1.cell 3; have c4 := HS1.out.1.cell 4; have c5 := HS1.out.1.cell 5; simp only [List.getElem?_cons_succ, List.getElem?_cons_zero] at c0 c1 c2 c3 c4 c5
       go_wp2_with fail
       refine (HC1.out _).mono ?_
       rintro e w1 ⟨rfl, hb1⟩
       have HS2 : Hid (Row w1 (w.heap.size) 25 [.int .i64 a, .int .i64 b, .int .i64 c, .int .i64 d, .int .i64 x, .int .i64 y] ∧ Below w.heap.size w w1) := ⟨(HS1.out.1).old hb1, (HS1.out.2).trans (hb1.mono (HS1.out.2).size)⟩
       clear hb1 HS1 c0 c1 c2 c3 c4 c5
       have c0 := HS2.out.1.cell 0; have c1 := HS2.out.1.cell 1; have c2 := HS2.out.1.cell 2; have c3 := HS2.out.1.cell 3; have c4 := HS2.out.1.cell 4; have c5 := HS2.out.1.cell 5; simp only [List.getElem?_cons_succ, List.getElem?_cons_zero] at c0 c1 c2 c3 c4 c5
       go_wp2_with fail
       refine (HC2.out _).mono ?_
       rintro e w2 ⟨rfl, hb2⟩
       have HS3 : Hid (Row w2 (w.heap.size) 25 [.int .i64 a, .int .i64 b, .int .i64 c, .int .i64 d, .int .i64 x, .int .i64 y] ∧ Below w.heap.size w w2) := ⟨(HS2.out.1).old hb2, (HS2.out.2).trans (hb2.mono (HS2.out.2).size)⟩
       clear hb2 HS2 c0 c1 c2 c3 c4 c5
       have c0 := HS3.out.1.cell 0; have c1 := HS3.out.1.cell 1; have c2 := HS3.out.1.cell 2; have c3 := HS3.out.1.cell 3; have c4 := HS3.out.1.cell 4; have c5 := HS3.out.1.cell 5; simp only [List.getElem?_cons_succ, List.getElem?_cons_zero] at c0 c1 c2 c3 c4 c5
       go_wp2_with fail
       refine (HC3.out _).mono ?_
       rintro e w3 ⟨rfl, hb3⟩
       have HS4 : Hid (Row w3 (w.heap.size) 25 [.int .i64 a, .int .i64 b, .int .i64 c, .int .i64 d, .int .i64 x, .int .i64 y] ∧ Below w.heap.size w w3) := ⟨(HS3.out.1).old hb3, (HS3.out.2).trans (hb3.mono (HS3.out.2).size)⟩
       clear hb3 HS3 c0 c1 c2 c3 c4 c5
       have c0 := HS4.out.1.cell 0; have c1 := HS4.out.1.cell 1; have c2 := HS4.out.1.cell 2; have c3 := HS4.out.1.cell 3; have c4 := HS4.out.1.cell 4; have c5 := HS4.out.1.cell 5; simp only [List.getElem?_cons_succ, List.getElem?_cons_zero] at c0 c1 c2 c3 c4 c5
       go_wp2_with fail
       go_ret
       exact ⟨by first | rfl | (rw [HR.out]; rfl), HS4.out.2⟩
     | false =>
       have HR : Hid ((if (false || false || false) = true then (4 : Int) else whenI zb 6) = whenI zb 6) := rfl
       go_enter Tryz.func28, Tryz.ntmps28
       go_upto_region 1 with fail
       refine genT (fun V => Row V (w.heap.size) 25 [.int .i64 a, .int .i64 b, .int .i64 c, .int .i64 d, .int .i64 x, .int .i64 y] ∧ Below w.heap.size w V) ⟨(rowAt _ _ (by first | rfl | simp only [World.size_alloc])), ((Below.refl _ _).alloc (by first | exact Nat.le_refl _ | (simp only [World.size_alloc]; omega)) _)⟩ ?_
       intro W1 s1
       have HS1 := Lib.hid s1
       clear s1
       have c0 := HS1.out.1.cell 0; have c1 := HS1.out.1.cell 1; have c2 := HS1.out.1.cell 2; have c3 := HS1.out.1.cell 3; have c4 := HS1.out.1.cell 4; have c5 := HS1.out.1.cell 5; simp only [List.getElem?_cons_succ, List.getElem?_cons_zero] at c0 c1 c2 c3 c4 c5
       go_wp2_with fail
       refine (HC1.out _).mono ?_
       rintro e w1 ⟨rfl, hb1⟩
       have HS2 : Hid (Row w1 (w.heap.size) 25 [.int .i64 a, .int .i64 b, .int .i64 c, .int .i64 d, .int .i64 x, .int .i64 y] ∧ Below w.heap.size w w1) := ⟨(HS1.out.1).old hb1, (HS1.out.2).trans (hb1.mono (HS1.out.2).size)⟩
       clear hb1 HS1 c0 c1 c2 c3 c4 c5
       have c0 := HS2.out.1.cell 0; have c1 := HS2.out.1.cell 1; have c2 := HS2.out.1.cell 2; have c3 := HS2.out.1.cell 3; have c4 := HS2.out.1.cell 4; have c5 := HS2.out.1.cell 5; simp only [List.getElem?_cons_succ, List.getElem?_cons_zero] at c0 c1 c2 c3 c4 c5
       go_wp2_with fail
       refine (HC2.out _).mono ?_
       rintro e w2 ⟨rfl, hb2⟩
       have HS3 : Hid (Row w2 (w.heap.size) 25 [.int .i64 a, .int .i64 b, .int .i64 c, .int .i64 d, .int .i64 x, .int .i64 y] ∧ Below w.heap.size w w2) := ⟨(HS2.out.1).old hb2, (HS2.out.2).trans (hb2.mono (HS2.out.2).size)⟩
       clear hb2 HS2 c0 c1 c2 c3 c4 c5
       have c0 := HS3.out.1.cell 0; have c1 := HS3.out.1.cell 1; have c2 := HS3.out.1.cell 2; have c3 := HS3.out.1.cell 3; have c4 := HS3.out.1.cell 4; have c5 := HS3.out.1.cell 5; simp only [List.getElem?_cons_succ, List.getElem?_cons_zero] at c0 c1 c2 c3 c4 c5
       go_wp2_with fail
       refine (HC3.out _).mono ?_
       rintro e w3 ⟨rfl, hb3⟩
       have HS4 : Hid (Row w3 (w.heap.size) 25 [.int .i64 a, .int .i64 b, .int .i64 c, .int .i64 d, .int .i64 x, .int .i64 y] ∧ Below w.heap.size w w3) := ⟨(HS3.out.1).old hb3, (HS3.out.2).trans (hb3.mono (HS3.out.2).size)⟩
       clear hb3 HS3 c0 c1 c2 c3 c4 c5
       have c0 := HS4.out.1.cell 0; have c1 := HS4.out.1.cell 1; have c2 := HS4.out.1.cell 2; have c3 := HS4.out.1.cell 3; have c4 := HS4.out.1.cell 4; have c5 := HS4.out.1.cell 5; simp only [List.getElem?_cons_succ, List.getElem?_cons_zero] at c0 c1 c2 c3 c4 c5
       go_wp2_with fail
       refine (HZ.out _).mono ?_
       rintro e w5 ⟨rfl, hb5⟩
       have HS5 : Hid (Row w5 (w.heap.size) 25 [.int .i64 a, .int .i64 b, .int .i64 c, .int .i64 d, .int .i64 x, .int .i64 y] ∧ Below w.heap.size w w5) := ⟨(HS4.out.1).old hb5, (HS4.out.2).trans (hb5.mono (HS4.out.2).size)⟩
       clear hb5 HS4
       go_wp2_with fail
       refine (when_any zb 6 _).mono ?_
       rintro e w6 ⟨rfl, rfl⟩
       go_wp2_with fail
       go_ret
       exact ⟨by first | rfl | (rw [HR.out]; rfl), HS5.out.2⟩
theorem firstI_one (x : Int) : firstI [x] = x := by
 by_cases h : x = 0
 · subst h; rfl
 · rw [firstI, if_neg h]
theorem firstI_right (s : Int) (l : List Int) : firstI [s, firstI l] = firstI (s :: l) := by
 by_cases h : s = 0
 · subst h
   have e1 : firstI [0, firstI l] = firstI [firstI l] := by rw [firstI, if_pos rfl]
   have e2 : firstI (0 :: l) = firstI l := by rw [firstI, if_pos rfl]
   rw [e1, e2, firstI_one]
 · rw [firstI, if_neg h, firstI, if_neg h]
theorem resV_good {a b c d x y e r1 r2 r3 r4 r5 r6 : Int} (h : resV [a, b, c, d, x, y] e = [.int .i64 r1, .int .i64 r2, .int .i64 r3, .int .i64 r4, .int .i64 r5, .int .i64 r6]) (h0 : e = 0) : a = r1 ∧ b = r2 ∧ c = r3 ∧ d = r4 ∧ x = r5 ∧ y = r6 := by
 rw [resV, if_pos h0] at h
 simpa [ints] using h
theorem resV_zero {a b c d x y e r1 r2 r3 r4 r5 r6 : Int} (h : resV [a, b, c, d, x, y] e = [.int .i64 r1, .int .i64 r2, .int .i64 r3, .int .i64 r4, .int .i64 r5, .int .i64 r6]) (h0 : e ≠ 0) : r1 = 0 ∧ r2 = 0 ∧ r3 = 0 ∧ r4 = 0 ∧ r5 = 0 ∧ r6 = 0 := by
 rw [resV, if_neg h0] at h
 simp [ints] at h
 omega
theorem scE {a b c d x y k l m n : Int} : firstI [sigE a b c d x y, firstI ([(k, l)].map (partE 1000)), whenI (k == 0 && l == 0) 6, firstI ([(m, n)].map (partE 1000))] = firstI [sigE a b c d x y, firstI [partE 1000 (k, l), whenI (k == 0 && l == 0) 6, partE 1000 (m, n)]] := by
 rw [List.map_cons, List.map_nil, List.map_cons, List.map_nil, firstI_one, firstI_one, firstI_right]
theorem one_pack (a b c d x y k l m n u v : Int) : ∃ E1 r1 r2 r3 r4 r5 r6 o1 o2 o3 o4 o5 o6 : Int, (∀ W, Calls Tryz.prog 21 #[.agg #[.int .i64 a, .int .i64 b, .int .i64 c, .int .i64 d, .int .i64 x, .int .i64 y], .agg #[.int .i64 k, .int .i64 l, .int .i64 m, .int .i64 n, .int .i64 u, .int .i64 v]] W fun e w' => e = .returned (.tuple #[.agg #[.int .i64 r1, .int .i64 r2, .int .i64 r3, .int .i64 r4, .int .i64 r5, .int .i64 r6], .int .i64 E1]) ∧ Below W.heap.size W w') ∧ (firstI [sigE a b c d x y, sigE k l m n u v] = 0 → (∀ W, Calls Tryz.prog 27 #[.agg #[.int .i64 a, .int .i64 b, .int .i64 c, .int .i64 d, .int .i64 x, .int .i64 y], .agg #[.int .i64 k, .int .i64 l, .int .i64 m, .int .i64 n, .int .i64 u, .int .i64 v]] W fun e w' => e = .returned (.agg #[.int .i64 o1, .int .i64 o2, .int .i64 o3, .int .i64 o4, .int .i64 o5, .int .i64 o6]) ∧ Below W.heap.size W w')) ∧ (firstI [sigE a b c d x y, sigE k l m n u v] = 0 → (∀ W, Calls Tryz.prog 28 #[.agg #[.int .i64 o1, .int .i64 o2, .int .i64 o3, .int .i64 o4, .int .i64 o5, .int .i64 o6]] W fun e w' => e = .returned (.int .i64 E1) ∧ Below W.heap.size W w')) ∧ (firstI [sigE a b c d x y, sigE k l m n u v] = 0 → E1 = 0 → o1 = r1 ∧ o2 = r2 ∧ o3 = r3 ∧ o4 = r4 ∧ o5 = r5 ∧ o6 = r6) ∧ (E1 ≠ 0 → r1 = 0 ∧ r2 = 0 ∧ r3 = 0 ∧ r4 = 0 ∧ r5 = 0 ∧ r6 = 0) ∧ (firstI [sigE a b c d x y, sigE k l m n u v] ≠ 0 → E1 = firstI [sigE a b c d x y, sigE k l m n u v]) := by
 by_cases h : firstI [sigE a b c d x y, sigE k l m n u v] = 0
 · obtain ⟨hs, hk⟩ := fI2 h
   have hg := sig_good hs; have hk := sig_good hk
   obtain ⟨r1, r2, r3, r4, r5, r6, hr⟩ := resV_six (a + k) (b + l) (c + m) (d + n) (x + u) (y + v) (bigE (sigE (a + k) (b + l) (c + m) (d + n) (x + u) (y + v)))
   exact ⟨(bigE (sigE (a + k) (b + l) (c + m) (d + n) (x + u) (y + v))), r1, r2, r3, r4, r5, r6, a + k, b + l, c + m, d + n, x + u, y + v, fun W => by have h2 := added_ok a b c d x y k l m n u v W h; rw [hr] at h2; exact h2, fun _ W => addedR_any a b c d x y k l m n u v W hg.g1 hg.g2 hg.g3 hk.g1 hk.g2 hk.g3, fun _ W => checkSumR_any _ _ _ _ _ _ W, fun _ h0 => resV_good hr h0, fun h0 => resV_zero hr h0, fun h' => absurd h h'⟩
 · exact ⟨firstI [sigE a b c d x y, sigE k l m n u v], 0, 0, 0, 0, 0, 0, 0, 0, 0, 0, 0, 0, fun W => added_bad a b c d x y k l m n u v _ W rfl h, fun h' => absurd h' h, fun h' => absurd h' h, fun h' => absurd h' h, fun _ => ⟨rfl, rfl, rfl, rfl, rfl, rfl⟩, fun _ => rfl⟩
theorem three_pack (a b c d x y k l m n : Int) : ∃ E1 r1 r2 r3 r4 r5 r6 o1 o2 o3 o4 o5 o6 : Int, (∀ W, Calls Tryz.prog 23 #[.agg #[.int .i64 a, .int .i64 b, .int .i64 c, .int .i64 d, .int .i64 x, .int .i64 y], .agg #[.int .i64 k, .int .i64 l], .agg #[.int .i64 m, .int .i64 n]] W fun e w' => e = .returned (.tuple #[.agg #[.int .i64 r1, .int .i64 r2, .int .i64 r3, .int .i64 r4, .int .i64 r5, .int .i64 r6], .int .i64 E1]) ∧ Below W.heap.size W w') ∧ (firstI [sigE a b c d x y, firstI [partE 1000 (k, l), whenI (k == 0 && l == 0) 6, partE 1000 (m, n)]] = 0 → (∀ W, Calls Tryz.prog 30 #[.agg #[.int .i64 a, .int .i64 b, .int .i64 c, .int .i64 d, .int .i64 x, .int .i64 y], .agg #[.int .i64 k, .int .i64 l], .agg #[.int .i64 m, .int .i64 n]] W fun e w' => e = .returned (.agg #[.int .i64 o1, .int .i64 o2, .int .i64 o3, .int .i64 o4, .int .i64 o5, .int .i64 o6]) ∧ Below W.heap.size W w')) ∧ (firstI [sigE a b c d x y, firstI [partE 1000 (k, l), whenI (k == 0 && l == 0) 6, partE 1000 (m, n)]] = 0 → (∀ W, Calls Tryz.prog 28 #[.agg #[.int .i64 o1, .int .i64 o2, .int .i64 o3, .int .i64 o4, .int .i64 o5, .int .i64 o6]] W fun e w' => e = .returned (.int .i64 E1) ∧ Below W.heap.size W w')) ∧ (firstI [sigE a b c d x y, firstI [partE 1000 (k, l), whenI (k == 0 && l == 0) 6, partE 1000 (m, n)]] = 0 → E1 = 0 → o1 = r1 ∧ o2 = r2 ∧ o3 = r3 ∧ o4 = r4 ∧ o5 = r5 ∧ o6 = r6) ∧ (E1 ≠ 0 → r1 = 0 ∧ r2 = 0 ∧ r3 = 0 ∧ r4 = 0 ∧ r5 = 0 ∧ r6 = 0) ∧ (firstI [sigE a b c d x y, firstI [partE 1000 (k, l), whenI (k == 0 && l == 0) 6, partE 1000 (m, n)]] ≠ 0 → E1 = firstI [sigE a b c d x y, firstI [partE 1000 (k, l), whenI (k == 0 && l == 0) 6, partE 1000 (m, n)]]) := by
 by_cases h : firstI [sigE a b c d x y, firstI [partE 1000 (k, l), whenI (k == 0 && l == 0) 6, partE 1000 (m, n)]] = 0
 · have h9 := (scE (a := a) (b := b) (c := c) (d := d) (x := x) (y := y) (k := k) (l := l) (m := m) (n := n)).trans h
   obtain ⟨hs, q1, -, q2⟩ := fI4 h9
   have hg := sig_good hs; have g4 := part1000 q1; have g5 := part1000 q2
   obtain ⟨r1, r2, r3, r4, r5, r6, hr⟩ := resV_six (a * k - b * l) (a * l + b * k) (c * m - d * n) (c * n + d * m) (x * m - y * n) (x * n + y * m) (bigE (sigE (a * k - b * l) (a * l + b * k) (c * m - d * n) (c * n + d * m) (x * m - y * n) (x * n + y * m)))
   exact ⟨(bigE (sigE (a * k - b * l) (a * l + b * k) (c * m - d * n) (c * n + d * m) (x * m - y * n) (x * n + y * m))), r1, r2, r3, r4, r5, r6, a * k - b * l, a * l + b * k, c * m - d * n, c * n + d * m, x * m - y * n, x * n + y * m, fun W => by have h2 := scaled_ok a b c d x y k l m n W h9; rw [hr] at h2; exact h2, fun _ W => scaledR_any a b c d x y k l m n W hg.g1 hg.g2 hg.g3 g4 g5, fun _ W => checkSumR_any _ _ _ _ _ _ W, fun _ h0 => resV_good hr h0, fun h0 => resV_zero hr h0, fun h' => absurd h h'⟩
 · exact ⟨firstI [sigE a b c d x y, firstI [partE 1000 (k, l), whenI (k == 0 && l == 0) 6, partE 1000 (m, n)]], 0, 0, 0, 0, 0, 0, 0, 0, 0, 0, 0, 0, fun W => scaled_bad a b c d x y k l m n _ W scE h, fun h' => absurd h' h, fun h' => absurd h' h, fun h' => absurd h' h, fun _ => ⟨rfl, rfl, rfl, rfl, rfl, rfl⟩, fun _ => rfl⟩
theorem two_pack (a b c d x y tt : Int) : ∃ r1 r2 r3 r4 r5 r6 : Int, (∀ W, Tn W → Calls Tryz.prog 22 #[.agg #[.int .i64 a, .int .i64 b, .int .i64 c, .int .i64 d, .int .i64 x, .int .i64 y], .int .i64 tt] W fun e w' => e = .returned (.tuple #[.agg #[.int .i64 r1, .int .i64 r2, .int .i64 r3, .int .i64 r4, .int .i64 r5, .int .i64 r6], .int .i64 (firstI [sigE a b c d x y, whenI (rangeB tt 0 3) 3])]) ∧ Below W.heap.size W w') ∧ (firstI [sigE a b c d x y, whenI (rangeB tt 0 3) 3] = 0 → (∀ W, Calls Tryz.prog 29 #[.agg #[.int .i64 a, .int .i64 b, .int .i64 c, .int .i64 d, .int .i64 x, .int .i64 y], .int .i64 tt] W fun e w' => e = .returned (.agg #[.int .i64 r1, .int .i64 r2, .int .i64 r3, .int .i64 r4, .int .i64 r5, .int .i64 r6]) ∧ Below W.heap.size W w')) ∧ (firstI [sigE a b c d x y, whenI (rangeB tt 0 3) 3] ≠ 0 → r1 = 0 ∧ r2 = 0 ∧ r3 = 0 ∧ r4 = 0 ∧ r5 = 0 ∧ r6 = 0) := by
 by_cases h : firstI [sigE a b c d x y, whenI (rangeB tt 0 3) 3] = 0
 · obtain ⟨hs, hk⟩ := fI2 h
   have hg := sig_good hs
   have hk := whenZ (by decide) hk
   exact ⟨a * iR tt - b * iI tt, a * iI tt + b * iR tt, c * iR tt - d * iI tt, c * iI tt + d * iR tt, x * iR tt - y * iI tt, x * iI tt + y * iR tt, fun W hT => by rw [h]; exact turned_ok a b c d x y tt W hT h, fun _ W => turnedR_any a b c d x y tt W hg.g1 hg.g2 hg.g3 hk, fun h' => absurd h h'⟩
 · exact ⟨0, 0, 0, 0, 0, 0, fun W hT => turned_bad a b c d x y tt _ W hT rfl h, fun h' => absurd h' h, fun _ => ⟨rfl, rfl, rfl, rfl, rfl, rfl⟩⟩
theorem toneChanges_any (Aw : World → Prop) (ho : ∀ W W', Aw W → Below W.heap.size W W' → Aw W') (haw : ∀ W, Aw W → Calls Tryz.prog 9 #[] W fun e w' => e = .returned (.bool true) ∧ Below W.heap.size W w') (hTn : ∀ W, Aw W → Tn W) (a b c d x y k l m n u v tt f1 f2 f3 f4 : Int) (w : World) (hW : Aw w) :
 Calls Tryz.prog 4 #[.agg #[.int .i64 a, .int .i64 b, .int .i64 c, .int .i64 d, .int .i64 x, .int .i64 y], .agg #[.int .i64 k, .int .i64 l, .int .i64 m, .int .i64 n, .int .i64 u, .int .i64 v], .agg #[.int .i64 tt, .int .i64 f1, .int .i64 f2, .int .i64 f3, .int .i64 f4]] w fun e w' => e = .returned (.bool true) ∧ Below w.heap.size w w' := by
 obtain ⟨E1, r1, r2, r3, r4, r5, r6, o1, o2, o3, o4, o5, o6, hAd, h1a, h1b, h1c, h1d, h1e⟩ := one_pack a b c d x y k l m n u v
 obtain ⟨E3, z1, z2, z3, z4, z5, z6, j1, j2, j3, j4, j5, j6, hSc, h3a, h3b, h3c, h3d, h3e⟩ := three_pack a b c d x y f1 f2 f3 f4
 obtain ⟨s1, s2, s3, s4, s5, s6, hTu, h2a, h2b⟩ := two_pack a b c d x y tt
 exact changes_law Aw ho haw a b c d x y k l m n u v tt f1 f2 f3 f4 E1 _ E3 _ _ _ _ _ _ r1 r2 r3 r4 r5 r6 s1 s2 s3 s4 s5 s6 z1 z2 z3 z4 z5 z6 o1 o2 o3 o4 o5 o6 j1 j2 j3 j4 j5 j6 w hW hAd (fun W h => hTu W (hTn W h)) hSc
  (fun W => checkSignalR_any a b c d x y W) (fun W => checkSignalR_any k l m n u v W) (fun W => checkTurnR_any tt W) (fun W => checkFactorsR_any f1 f2 f3 f4 W) rfl rfl rfl
  h1a h1b h1c h1d h1e h2a h2b h3a h3b h3c h3d h3e
end Go.Proofs.YtcaekblnioidiaaGreatDoor
