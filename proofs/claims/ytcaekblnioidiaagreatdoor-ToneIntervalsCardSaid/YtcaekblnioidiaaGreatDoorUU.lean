import Derived.Test.YtcaekblnioidiaaGreatDoorUX
import Derived.Test.YtcaekblnioidiaaGreatDoorM15
import Derived.Test.YtcaekblnioidiaaGreatDoorM18
namespace Go.Proofs.YtcaekblnioidiaaGreatDoor
set_option linter.all false
open Go.RowKit Go.Fl
set_option linter.unusedVariables false
set_option linter.unusedSimpArgs false

set_option maxRecDepth 100000 in
set_option maxHeartbeats 1000000 in
theorem checkIntervalR_any (lo hi low high : Int) (w : World) : Calls Tryz.prog 100 #[.agg #[.int .i64 lo, .int .i64 hi], .int .i64 low, .int .i64 high] w fun e w' => e = .returned (.int .i64 (ivE lo hi low high)) ∧ Below w.heap.size w w' := by
 go_enter Tryz.func100, Tryz.ntmps100
 go_upto_region 1 with fail
 refine genT (fun V => Row V (w.heap.size) 62 [.int .i64 lo, .int .i64 hi] ∧ Below w.heap.size w V) ⟨(rowAt _ _ (by first | rfl | simp only [World.size_alloc])), ((Below.refl _ _).alloc (by first | exact Nat.le_refl _ | (simp only [World.size_alloc]; omega)) _)⟩ ?_
 intro W1 s1
 have HS1 := Lib.hid s1
 clear s1
 refine wp_region_held_drew (S := fun V => Row V (w.heap.size) 62 [.int .i64 lo, .int .i64 hi] ∧ Below w.heap.size w V) (by kernel_rfl) ?_ (fun hHeld => ?_)
 · exact ⟨(HS1.out.1).drew, (HS1.out.2).drew⟩
 refine tk 0 7 ?_ rfl (by kernel_rfl) (fun _ _ _ h => h) (by kernel_rfl) ?_ hHeld ?_
 rotate_left
 · intro w1 hSw; (try dsimp only at hSw); go_simp <;> with_reducible rfl
 try simp only [zz]
 refine tk 1 8 ?_ rfl (by kernel_rfl) (fun _ _ _ h => h) (by kernel_rfl) ?_ hHeld ?_
 rotate_left
 · intro w1 hSw; (try dsimp only at hSw); have cc := (hSw.1).cell 0; simp only [List.getElem?_cons_succ, List.getElem?_cons_zero] at cc; go_simp <;> with_reducible rfl
 try simp only [zz]
 refine tk 2 9 ?_ rfl (by kernel_rfl) (fun _ _ _ h => h) (by kernel_rfl) ?_ hHeld ?_
 rotate_left
 · intro w1 hSw; (try dsimp only at hSw); go_simp <;> with_reducible rfl
 try simp only [zz]
 refine tk 3 10 ?_ rfl (by kernel_rfl) (fun _ _ _ h => h) (by kernel_rfl) ?_ hHeld ?_
 rotate_left
 · intro w1 hSw; (try dsimp only at hSw); go_simp <;> with_reducible rfl
 try simp only [zz]
 refine tk 5 12 ?_ rfl (by kernel_rfl) (fun _ _ _ h => h) (by kernel_rfl) ?_ hHeld ?_
 rotate_left
 · intro w1 hSw; (try dsimp only at hSw); go_simp <;> with_reducible rfl
 try simp only [zz]
 refine tk 6 13 ?_ rfl (by kernel_rfl) (fun _ _ _ h => h) (by kernel_rfl) ?_ hHeld ?_
 rotate_left
 · intro w1 hSw; (try dsimp only at hSw); have cc := (hSw.1).cell 1; simp only [List.getElem?_cons_succ, List.getElem?_cons_zero] at cc; go_simp <;> with_reducible rfl
 try simp only [zz]
 refine tk 7 14 ?_ rfl (by kernel_rfl) (fun _ _ _ h => h) (by kernel_rfl) ?_ hHeld ?_
 rotate_left
 · intro w1 hSw; (try dsimp only at hSw); go_simp <;> with_reducible rfl
 try simp only [zz]
 refine tk 8 15 ?_ rfl (by kernel_rfl) (fun _ _ _ h => h) (by kernel_rfl) ?_ hHeld ?_
 rotate_left
 · intro w1 hSw; (try dsimp only at hSw); go_simp <;> with_reducible rfl
 try simp only [zz]
 refine tk 10 17 ?_ rfl (by kernel_rfl) (fun _ _ _ h => h) (by kernel_rfl) ?_ hHeld ?_
 rotate_left
 · intro w1 hSw; (try dsimp only at hSw); go_simp <;> with_reducible rfl
 try simp only [zz]
 refine tk 11 18 ?_ rfl (by kernel_rfl) (fun _ _ _ h => h) (by kernel_rfl) ?_ hHeld ?_
 rotate_left
 · intro w1 hSw; (try dsimp only at hSw); have cc := (hSw.1).cell 0; simp only [List.getElem?_cons_succ, List.getElem?_cons_zero] at cc; go_simp <;> with_reducible rfl
 try simp only [zz]
 refine tk 12 19 ?_ rfl (by kernel_rfl) (fun _ _ _ h => h) (by kernel_rfl) ?_ hHeld ?_
 rotate_left
 · intro w1 hSw; (try dsimp only at hSw); go_simp <;> with_reducible rfl
 try simp only [zz]
 refine tk 13 20 ?_ rfl (by kernel_rfl) (fun _ _ _ h => h) (by kernel_rfl) ?_ hHeld ?_
 rotate_left
 · intro w1 hSw; (try dsimp only at hSw); have cc := (hSw.1).cell 1; simp only [List.getElem?_cons_succ, List.getElem?_cons_zero] at cc; go_simp <;> with_reducible rfl
 try simp only [zz]
 refine tk 14 21 ?_ rfl (by kernel_rfl) (fun _ _ _ h => h) (by kernel_rfl) ?_ hHeld ?_
 rotate_left
 · intro w1 hSw; (try dsimp only at hSw); go_simp <;> with_reducible rfl
 try simp only [zz]
 refine st1 4 (by kernel_rfl) rfl (fun K hK => ?_)
 go_simp
 go_at_call 40
 refine (checkRange_any lo low high _).mono ?_
 rintro e v4 ⟨rfl, rfl⟩
 try go_simp
 refine hK.out _ _ ?_ (fun hHeld => ?_)
 · exact hHeld
 clear hK K
 try simp only [zz]
 refine st1 9 (by kernel_rfl) rfl (fun K hK => ?_)
 go_simp
 go_at_call 40
 refine (checkRange_any hi low high _).mono ?_
 rintro e v9 ⟨rfl, rfl⟩
 try go_simp
 refine hK.out _ _ ?_ (fun hHeld => ?_)
 · exact hHeld
 clear hK K
 try simp only [zz]
 refine st1 15 (by kernel_rfl) rfl (fun K hK => ?_)
 go_simp
 go_at_call 74
 refine (when_any (decide (hi < lo)) 11 _).mono ?_
 rintro e v15 ⟨rfl, rfl⟩
 try go_simp
 refine hK.out _ _ ?_ (fun hHeld => ?_)
 · exact hHeld
 clear hK K
 try simp only [zz]
 refine st1 16 (by kernel_rfl) rfl (fun K hK => ?_)
 go_simp
 refine hK.out _ _ ?_ (fun hHeld => ?_)
 · exact ⟨(hHeld.1).old ((Below.refl _ _).alloc (Nat.le_refl _) _), (hHeld.2).trans ((((Below.refl _ _).alloc (Nat.le_refl _) _)).mono (hHeld.2).size)⟩
 clear hK K
 try simp only [zz]
 refine st1 17 (by kernel_rfl) rfl (fun K hK => ?_)
 go_simp
 go_at_call 24
 refine (first_any _ _ _ [whenI (rangeB lo low high) 3, whenI (rangeB hi low high) 3, whenI (decide (hi < lo)) 11] _ ?_ rfl (by simp)).mono ?_
 · exact Rd.newT (t := 3)
 rintro e v99 ⟨rfl, rfl⟩
 try go_simp
 refine hK.out _ _ ?_ (fun hHeld => ?_)
 · exact hHeld
 clear hK K
 try simp only [zz]
 refine tk 18 6 ?_ rfl (by kernel_rfl) (fun _ _ _ h => h) (by kernel_rfl) ?_ hHeld ?_
 rotate_left
 · intro w1 hSw; (try dsimp only at hSw); go_simp <;> with_reducible rfl
 try simp only [zz]
 refine wpAnyH_done (by kernel_rfl) ?_ _
 go_wp2_with fail
 go_ret
 exact ⟨rfl, hHeld.2⟩
set_option maxRecDepth 100000 in
set_option maxHeartbeats 1000000 in
theorem checkReceiverR_any (rs rf rl ra rb : Int) (w : World) : Calls Tryz.prog 38 #[.agg #[.int .i64 rs, .int .i64 rf, .int .i64 rl, .int .i64 ra, .int .i64 rb]] w fun e w' => e = .returned (.int .i64 (recE rs rf rl ra rb)) ∧ Below w.heap.size w w' := by
 obtain ⟨E4, hE4⟩ : ∃ E4, E4 = ivE ra rb (-10000) 10000 := ⟨_, rfl⟩
 have hR : recE rs rf rl ra rb = firstI [whenI (rangeB rs 1 1000) 3, whenI (rangeB rf 1 1000) 3, whenI (rangeB rl 0 200000000) 3, E4] := by unfold recE; rw [← hE4]
 have HI : Hid (∀ W, Calls Tryz.prog 100 #[.agg #[.int .i64 ra, .int .i64 rb], .int .i64 (-10000), .int .i64 10000] W fun e w' => e = .returned (.int .i64 E4) ∧ Below W.heap.size W w') := fun W => by rw [hE4]; exact checkIntervalR_any ra rb (-10000) 10000 W
 rw [hR]
 clear hR hE4
 go_enter Tryz.func38, Tryz.ntmps38
 go_upto_region 1 with fail
 refine genT (fun V => Row V (w.heap.size) 64 [.int .i64 rs, .int .i64 rf, .int .i64 rl, .int .i64 ra, .int .i64 rb] ∧ Below w.heap.size w V) ⟨(rowAt _ _ (by first | rfl | simp only [World.size_alloc])), ((Below.refl _ _).alloc (by first | exact Nat.le_refl _ | (simp only [World.size_alloc]; omega)) _)⟩ ?_
 intro W1 s1
 have HS1 := Lib.hid s1
 clear s1
 refine wp_region_held_drew (S := fun V => Row V (w.heap.size) 64 [.int .i64 rs, .int .i64 rf, .int .i64 rl, .int .i64 ra, .int .i64 rb] ∧ Below w.heap.size w V) (by kernel_rfl) ?_ (fun hHeld => ?_)
 · exact ⟨(HS1.out.1).drew, (HS1.out.2).drew⟩
 refine tk 0 3 ?_ rfl (by kernel_rfl) (fun _ _ _ h => h) (by kernel_rfl) ?_ hHeld ?_
 rotate_left
 · intro w1 hSw; (try dsimp only at hSw); go_simp <;> with_reducible rfl
 try simp only [zz]
 refine tk 1 4 ?_ rfl (by kernel_rfl) (fun _ _ _ h => h) (by kernel_rfl) ?_ hHeld ?_
 rotate_left
 · intro w1 hSw; (try dsimp only at hSw); have cc := (hSw.1).cell 0; simp only [List.getElem?_cons_succ, List.getElem?_cons_zero] at cc; go_simp <;> with_reducible rfl
 try simp only [zz]
 refine tk 3 6 ?_ rfl (by kernel_rfl) (fun _ _ _ h => h) (by kernel_rfl) ?_ hHeld ?_
 rotate_left
 · intro w1 hSw; (try dsimp only at hSw); go_simp <;> with_reducible rfl
 try simp only [zz]
 refine tk 4 7 ?_ rfl (by kernel_rfl) (fun _ _ _ h => h) (by kernel_rfl) ?_ hHeld ?_
 rotate_left
 · intro w1 hSw; (try dsimp only at hSw); have cc := (hSw.1).cell 1; simp only [List.getElem?_cons_succ, List.getElem?_cons_zero] at cc; go_simp <;> with_reducible rfl
 try simp only [zz]
 refine tk 6 9 ?_ rfl (by kernel_rfl) (fun _ _ _ h => h) (by kernel_rfl) ?_ hHeld ?_
 rotate_left
 · intro w1 hSw; (try dsimp only at hSw); go_simp <;> with_reducible rfl
 try simp only [zz]
 refine tk 7 10 ?_ rfl (by kernel_rfl) (fun _ _ _ h => h) (by kernel_rfl) ?_ hHeld ?_
 rotate_left
 · intro w1 hSw; (try dsimp only at hSw); have cc := (hSw.1).cell 2; simp only [List.getElem?_cons_succ, List.getElem?_cons_zero] at cc; go_simp <;> with_reducible rfl
 try simp only [zz]
 refine tk 9 12 ?_ rfl (by kernel_rfl) (fun _ _ _ h => h) (by kernel_rfl) ?_ hHeld ?_
 rotate_left
 · intro w1 hSw; (try dsimp only at hSw); go_simp <;> with_reducible rfl
 try simp only [zz]
 refine tk 10 13 (.agg #[.int .i64 ra, .int .i64 rb]) rfl (by kernel_rfl) (fun _ _ _ h => h) (by kernel_rfl) (fun V hV => ex_Interval _ rfl (w.heap.size) 3 rfl ((hV.1).cell 3) ((hV.1).cell 4)) hHeld ?_
 try simp only [zz]
 refine st1 2 (by kernel_rfl) rfl (fun K hK => ?_)
 go_simp
 go_at_call 40
 refine (checkRange_any rs 1 1000 _).mono ?_
 rintro e v2 ⟨rfl, rfl⟩
 try go_simp
 refine hK.out _ _ ?_ (fun hHeld => ?_)
 · exact hHeld
 clear hK K
 try simp only [zz]
 refine st1 5 (by kernel_rfl) rfl (fun K hK => ?_)
 go_simp
 go_at_call 40
 refine (checkRange_any rf 1 1000 _).mono ?_
 rintro e v5 ⟨rfl, rfl⟩
 try go_simp
 refine hK.out _ _ ?_ (fun hHeld => ?_)
 · exact hHeld
 clear hK K
 try simp only [zz]
 refine st1 8 (by kernel_rfl) rfl (fun K hK => ?_)
 go_simp
 go_at_call 40
 refine (checkRange_any rl 0 200000000 _).mono ?_
 rintro e v8 ⟨rfl, rfl⟩
 try go_simp
 refine hK.out _ _ ?_ (fun hHeld => ?_)
 · exact hHeld
 clear hK K
 try simp only [zz]
 refine st1 11 (by kernel_rfl) rfl (fun K hK => ?_)
 go_simp
 go_at_call 100
 refine (HI.out _).mono ?_
 rintro e v11 ⟨rfl, hb11⟩
 try go_simp
 refine hK.out _ _ ?_ (fun hHeld => ?_)
 · exact ⟨(hHeld.1).old hb11, (hHeld.2).trans ((hb11).mono (hHeld.2).size)⟩
 clear hK K
 try simp only [zz]
 refine st1 12 (by kernel_rfl) rfl (fun K hK => ?_)
 go_simp
 refine hK.out _ _ ?_ (fun hHeld => ?_)
 · exact ⟨(hHeld.1).old ((Below.refl _ _).alloc (Nat.le_refl _) _), (hHeld.2).trans ((((Below.refl _ _).alloc (Nat.le_refl _) _)).mono (hHeld.2).size)⟩
 clear hK K
 try simp only [zz]
 refine st1 13 (by kernel_rfl) rfl (fun K hK => ?_)
 go_simp
 go_at_call 24
 refine (first_any _ _ _ [whenI (rangeB rs 1 1000) 3, whenI (rangeB rf 1 1000) 3, whenI (rangeB rl 0 200000000) 3, E4] _ ?_ rfl (by simp)).mono ?_
 · exact Rd.newT (t := 3)
 rintro e v99 ⟨rfl, rfl⟩
 try go_simp
 refine hK.out _ _ ?_ (fun hHeld => ?_)
 · exact hHeld
 clear hK K
 try simp only [zz]
 refine tk 14 2 ?_ rfl (by kernel_rfl) (fun _ _ _ h => h) (by kernel_rfl) ?_ hHeld ?_
 rotate_left
 · intro w1 hSw; (try dsimp only at hSw); go_simp <;> with_reducible rfl
 try simp only [zz]
 refine wpAnyH_done (by kernel_rfl) ?_ _
 go_wp2_with fail
 go_ret
 exact ⟨rfl, hHeld.2⟩
set_option maxRecDepth 100000 in
set_option maxHeartbeats 1000000 in
theorem checkLossR_any (lo hi : Int) (w : World) : Calls Tryz.prog 39 #[.agg #[.int .i64 lo, .int .i64 hi]] w fun e w' => e = .returned (.int .i64 (ivE lo hi 0 1000)) ∧ Below w.heap.size w w' := by
 go_enter Tryz.func39, Tryz.ntmps39
 go_upto_region 1 with fail
 refine genT (fun V => Row V (w.heap.size) 62 [.int .i64 lo, .int .i64 hi] ∧ Below w.heap.size w V) ⟨(rowAt _ _ (by first | rfl | simp only [World.size_alloc])), ((Below.refl _ _).alloc (by first | exact Nat.le_refl _ | (simp only [World.size_alloc]; omega)) _)⟩ ?_
 intro W1 s1
 have HS1 := Lib.hid s1
 clear s1
 go_wp2_with (first | (refine wpList_load_row rfl 62 _ rfl (w.heap.size) rfl 62 #[.int .i64 lo, .int .i64 hi] (0, 0) _ HS1.out.1 Tryz.underlying62 rfl ?_ ?_; (kernel_rfl)) | (go_at_call 100; refine (checkIntervalR_any lo hi 0 1000 _).mono ?_; rintro e w2 ⟨rfl, hb_w2⟩; have HS2 : Hid (Row w2 (w.heap.size) 62 [.int .i64 lo, .int .i64 hi] ∧ Below w.heap.size w w2) := ⟨(HS1.out.1).old hb_w2, (HS1.out.2).trans (hb_w2.mono (HS1.out.2).size)⟩; clear hb_w2))
 go_ret
 exact ⟨rfl, HS2.out.2⟩
set_option maxRecDepth 100000 in
theorem floorR_any (n d : Int) (w : World) (hn : n.natAbs ≤ 1000000000000000000) (hd : 0 < d ∧ d ≤ 1000000000000000000) : Calls Tryz.prog 179 #[.int .i64 n, .int .i64 d] w fun e w' => e = .returned (.int .i64 (n / d)) ∧ w = w' := by
 have hf := floor_eq (n := n) hd.1
 obtain ⟨q, hq⟩ : ∃ q, q = n.tdiv d := ⟨_, rfl⟩
 rw [← hq] at hf
 have hqb : q.natAbs ≤ n.natAbs := by rw [hq, Int.natAbs_tdiv]; exact Nat.div_le_self _ _
 have hqd : (q * d).natAbs ≤ n.natAbs := by
  rw [hq, Int.natAbs_mul, Int.natAbs_tdiv]
  exact Nat.div_mul_le_self _ _
 have hne : ¬ d = 0 := by omega
 have hne2 : (d == 0) = false := by simpa using hne
 have e1 : IntKind.i64.wrap (n.tdiv d) = q := by rw [← hq]; exact IntWalk.i64_in _ (by omega)
 have e2 : IntKind.i64.wrap (q * d) = q * d := IntWalk.i64_in _ (by omega)
 have e3 : IntKind.i64.wrap (q - 1) = q - 1 := IntWalk.i64_in _ (by omega)
 have HF := Lib.hid hf
 by_cases hc : n < q * d
 · have HR : Hid (n / d = q - 1) := by unfold Hid; rw [← hf, if_pos hc]
   clear hf hq hqb hqd hn hd
   go_enter Tryz.func179, Tryz.ntmps179
   go_wp2_with fail
   go_ret
   exact ⟨by rw [HR.out]; rfl, rfl⟩
 · have HR : Hid (n / d = q) := by unfold Hid; rw [← hf, if_neg hc]
   clear hf hq hqb hqd hn hd
   go_enter Tryz.func179, Tryz.ntmps179
   go_wp2_with fail
   go_ret
   exact ⟨by rw [HR.out]; rfl, rfl⟩
set_option maxRecDepth 100000 in
theorem roundR_any (n d : Int) (w : World) (hn : n.natAbs ≤ 100000000000000000) (hd : 0 < d ∧ d ≤ 100000000000000000) : Calls Tryz.prog 149 #[.int .i64 n, .int .i64 d] w fun e w' => e = .returned (.int .i64 ((2 * n + d) / (2 * d))) ∧ w = w' := by
 have HF : Hid (∀ W, Calls Tryz.prog 179 #[.int .i64 (2 * n + d), .int .i64 (2 * d)] W fun e w' => e = .returned (.int .i64 ((2 * n + d) / (2 * d))) ∧ W = w') := fun W => floorR_any _ _ W (by omega) (by omega)
 have e1 : IntKind.i64.wrap (2 * n) = 2 * n := IntWalk.i64_in _ (by omega)
 have e2 : IntKind.i64.wrap (2 * d) = 2 * d := IntWalk.i64_in _ (by omega)
 have e3 : IntKind.i64.wrap (2 * n + d) = 2 * n + d := IntWalk.i64_in _ (by omega)
 clear hn hd
 go_enter Tryz.func149, Tryz.ntmps149
 go_wp2_with (go_at_call 179; refine (HF.out _).mono ?_; rintro e w1 ⟨rfl, rfl⟩)
 go_ret
 exact ⟨rfl, rfl⟩
set_option maxRecDepth 100000 in
set_option maxHeartbeats 1000000 in
theorem shownR_any (rs rf rl ra rb n d : Int) (w : World) (hs : 1 ≤ rs ∧ rs ≤ 1000) (hf : 1 ≤ rf ∧ rf ≤ 1000) (hn : n.natAbs ≤ 10000000000000) (hd : 0 < d ∧ d ≤ 10000000000000) : Calls Tryz.prog 101 #[.agg #[.int .i64 rs, .int .i64 rf, .int .i64 rl, .int .i64 ra, .int .i64 rb], .int .i64 n, .int .i64 d] w fun e w' => e = .returned (.int .i64 (shownI rs rf n d)) ∧ Below w.heap.size w w' := by
 have b1 : (n * rs).natAbs ≤ 10000000000000 * 1000 := by rw [Int.natAbs_mul]; exact Nat.mul_le_mul hn (by omega)
 obtain ⟨p, hp⟩ : ∃ p, p = (2 * (n * rs) + d) / (2 * d) := ⟨_, rfl⟩
 have HN : Hid (∀ W, Calls Tryz.prog 149 #[.int .i64 (n * rs), .int .i64 d] W fun e w' => e = .returned (.int .i64 p) ∧ W = w') := fun W => by rw [hp]; exact roundR_any (n * rs) d W (by omega) (by omega)
 have e0 : IntKind.i64.wrap (n * rs) = n * rs := IntWalk.i64_in _ (by omega)
 obtain ⟨nr, hnr⟩ : ∃ nr, nr = n * rs := ⟨_, rfl⟩
 have hsh : shownI rs rf n d = max (-rf) (min rf p) := by unfold shownI; rw [← hp]
 rw [← hnr] at HN e0
 have e1 : IntKind.i64.wrap (-rf) = -rf := IntWalk.i64_in _ (by omega)
 have e2 : IntKind.i64.wrap (0 - rf) = -rf := by rw [Int.zero_sub]; exact e1
 have HF : Hid (1 ≤ rf) := hf.1
 rw [hsh]
 have e3 : IntKind.i64.wrap (n * rs) = nr := by rw [← hnr]; exact e0
 clear hs hf hn hd b1 hp hnr hsh e0
 go_enter Tryz.func101, Tryz.ntmps101
 go_upto_region 1 with fail
 refine genT (fun V => Row V (w.heap.size) 64 [.int .i64 rs, .int .i64 rf, .int .i64 rl, .int .i64 ra, .int .i64 rb] ∧ Below w.heap.size w V) ⟨(rowAt _ _ (by first | rfl | simp only [World.size_alloc])), ((Below.refl _ _).alloc (by first | exact Nat.le_refl _ | (simp only [World.size_alloc]; omega)) _)⟩ ?_
 intro W1 s1
 have HS1 := Lib.hid s1
 clear s1
 refine wp_region_held_drew (S := fun V => Row V (w.heap.size) 64 [.int .i64 rs, .int .i64 rf, .int .i64 rl, .int .i64 ra, .int .i64 rb] ∧ Below w.heap.size w V) (by kernel_rfl) ?_ (fun hHeld => ?_)
 · exact ⟨(HS1.out.1).drew, (HS1.out.2).drew⟩
 refine tk 0 7 ?_ rfl (by kernel_rfl) (fun _ _ _ h => h) (by kernel_rfl) ?_ hHeld ?_
 rotate_left
 · intro w1 hSw; (try dsimp only at hSw); go_simp <;> with_reducible rfl
 try simp only [zz]
 refine tk 1 8 ?_ rfl (by kernel_rfl) (fun _ _ _ h => h) (by kernel_rfl) ?_ hHeld ?_
 rotate_left
 · intro w1 hSw; (try dsimp only at hSw); have cc := (hSw.1).cell 1; simp only [List.getElem?_cons_succ, List.getElem?_cons_zero] at cc; go_simp <;> with_reducible rfl
 try simp only [zz]
 refine tk 2 9 ?_ rfl (by kernel_rfl) (fun _ _ _ h => h) (by kernel_rfl) ?_ hHeld ?_
 rotate_left
 · intro w1 hSw; (try dsimp only at hSw); go_simp <;> with_reducible rfl
 try simp only [zz]
 refine tk 3 10 ?_ rfl (by kernel_rfl) (fun _ _ _ h => h) (by kernel_rfl) ?_ hHeld ?_
 rotate_left
 · intro w1 hSw; (try dsimp only at hSw); go_simp <;> with_reducible rfl
 try simp only [zz]
 refine tk 4 11 ?_ rfl (by kernel_rfl) (fun _ _ _ h => h) (by kernel_rfl) ?_ hHeld ?_
 rotate_left
 · intro w1 hSw; (try dsimp only at hSw); have cc := (hSw.1).cell 1; simp only [List.getElem?_cons_succ, List.getElem?_cons_zero] at cc; go_simp <;> with_reducible rfl
 try simp only [zz]
 refine tk 5 12 ?_ rfl (by kernel_rfl) (fun _ _ _ h => h) (by kernel_rfl) ?_ hHeld ?_
 rotate_left
 · intro w1 hSw; (try dsimp only at hSw); go_simp <;> with_reducible rfl
 try simp only [zz]
 refine tk 6 13 ?_ rfl (by kernel_rfl) (fun _ _ _ h => h) (by kernel_rfl) ?_ hHeld ?_
 rotate_left
 · intro w1 hSw; (try dsimp only at hSw); go_simp <;> with_reducible rfl
 try simp only [zz]
 refine tk 7 14 ?_ rfl (by kernel_rfl) (fun _ _ _ h => h) (by kernel_rfl) ?_ hHeld ?_
 rotate_left
 · intro w1 hSw; (try dsimp only at hSw); have cc := (hSw.1).cell 0; simp only [List.getElem?_cons_succ, List.getElem?_cons_zero] at cc; go_simp <;> with_reducible rfl
 try simp only [zz]
 refine tk 8 15 ?_ rfl (by kernel_rfl) (fun _ _ _ h => h) (by kernel_rfl) ?_ hHeld ?_
 rotate_left
 · intro w1 hSw; (try dsimp only at hSw); go_simp <;> with_reducible rfl
 try simp only [zz]
 refine tk 9 16 ?_ rfl (by kernel_rfl) (fun _ _ _ h => h) (by kernel_rfl) ?_ hHeld ?_
 rotate_left
 · intro w1 hSw; (try dsimp only at hSw); go_simp <;> with_reducible rfl
 try simp only [zz]
 refine st1 10 (by kernel_rfl) rfl (fun K hK => ?_)
 go_simp
 go_at_call 149
 refine (HN.out _).mono ?_
 rintro e v10 ⟨rfl, rfl⟩
 try go_simp
 refine hK.out _ _ ?_ (fun hHeld => ?_)
 · exact hHeld
 clear hK K
 try simp only [zz]
 refine tk 11 18 ?_ rfl (by kernel_rfl) (fun _ _ _ h => h) (by kernel_rfl) ?_ hHeld ?_
 rotate_left
 · intro w1 hSw; (try dsimp only at hSw); go_simp <;> with_reducible rfl
 try simp only [zz]
 refine tk 12 19 ?_ rfl (by kernel_rfl) (fun _ _ _ h => h) (by kernel_rfl) ?_ hHeld ?_
 rotate_left
 · intro w1 hSw; (try dsimp only at hSw); go_simp <;> with_reducible rfl
 try simp only [zz]
 refine tk 13 6 ?_ rfl (by kernel_rfl) (fun _ _ _ h => h) (by kernel_rfl) ?_ hHeld ?_
 rotate_left
 · intro w1 hSw; (try dsimp only at hSw); go_simp <;> with_reducible rfl
 try simp only [zz]
 refine wpAnyH_done (by kernel_rfl) ?_ _
 go_wp2_with fail
 all_goals go_ret
 all_goals exact ⟨ret_int (by have := HF.out; omega), hHeld.2⟩
set_option maxRecDepth 100000 in
theorem absoluteR_any (n : Int) (w : World) (hn : n.natAbs ≤ 1000000000) : Calls Tryz.prog 102 #[.int .i64 n] w fun e w' => e = .returned (.int .i64 (max n (-n))) ∧ w = w' := by
 have e1 : IntKind.i64.wrap (0 - n) = -n := by rw [Int.zero_sub]; exact IntWalk.i64_in _ (by omega)
 have e2 : IntKind.i64.wrap (-n) = -n := IntWalk.i64_in _ (by omega)
 clear hn
 go_enter Tryz.func102, Tryz.ntmps102
 go_wp2_with fail
 all_goals go_ret
 all_goals exact ⟨ret_int (by omega), rfl⟩
end Go.Proofs.YtcaekblnioidiaaGreatDoor
