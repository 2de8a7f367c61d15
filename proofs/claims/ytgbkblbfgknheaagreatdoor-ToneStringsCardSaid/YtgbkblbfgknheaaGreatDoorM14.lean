import Derived.Test.YtgbkblbfgknheaaGreatDoorM13
namespace Go.Proofs.YtgbkblbfgknheaaGreatDoor
set_option linter.all false
open Go.RowKit Go.Fl
theorem iRI (k : Int) : Gs (iR k) (iI k) := by unfold Gs iR iI; constructor <;> (split <;> (first | decide | (split <;> decide)))
def resV (l : List Int) (e : Int) : List Value := if e = 0 then ints l else ints [0, 0, 0, 0, 0, 0]
theorem resV_six (a b c d x y e : Int) : ∃ r1 r2 r3 r4 r5 r6 : Int, resV [a, b, c, d, x, y] e = [.int .i64 r1, .int .i64 r2, .int .i64 r3, .int .i64 r4, .int .i64 r5, .int .i64 r6] := by
 unfold resV
 split
 · exact ⟨a, b, c, d, x, y, rfl⟩
 · exact ⟨0, 0, 0, 0, 0, 0, rfl⟩
theorem bigE_zero {e : Int} (h : bigE e = 0) : e = 0 := by
 unfold bigE at h
 split at h
 · cases h
 · exact h
theorem result_any (a b c d x y : Int) (w : World) : Calls Tryz.prog 94 #[.agg #[.int .i64 a, .int .i64 b, .int .i64 c, .int .i64 d, .int .i64 x, .int .i64 y]] w fun e w' => e = .returned (.tuple #[.agg (resV [a, b, c, d, x, y] (bigE (sigE a b c d x y))).toArray, .int .i64 (bigE (sigE a b c d x y))]) ∧ Below w.heap.size w w' := by
 by_cases h : bigE (sigE a b c d x y) = 0
 · have h0 := bigE_zero h
   rw [h, resV, if_pos rfl]
   exact result_ok a b c d x y w h0
 · rw [resV, if_neg h]
   exact result_bad a b c d x y _ w rfl h
theorem cell_farT {w : World} {g g' i : Nat} (cs : Array Value) (h : g ≠ g') : (w.setRow g' cs).cell? ⟨g, i, none⟩ = w.cell? ⟨g, i, none⟩ := by
 simp only [World.cell?, setRow_other w g' cs g h]
theorem tnSet {w : World} {g : Nat} (h : Tn w) (hg : 0 < g) (cs : Array Value) : Tn (w.setRow g cs) := fun j v hv => by
 have h1 := h j v hv
 rw [cell_farT cs (show 0 ≠ g by omega)]
 exact h1
set_option maxRecDepth 100000 in
set_option maxHeartbeats 1000000 in
theorem turned_ok (a b c d x y k : Int) (w : World) (hT : Tn w) (hE : firstI [sigE a b c d x y, whenI (rangeB k 0 3) 3] = 0) : Calls Tryz.prog 38 #[.agg #[.int .i64 a, .int .i64 b, .int .i64 c, .int .i64 d, .int .i64 x, .int .i64 y], .int .i64 k] w fun e w' => e = .returned (.tuple #[.agg #[.int .i64 (a * iR k - b * iI k), .int .i64 (a * iI k + b * iR k), .int .i64 (c * iR k - d * iI k), .int .i64 (c * iI k + d * iR k), .int .i64 (x * iR k - y * iI k), .int .i64 (x * iI k + y * iR k)], .int .i64 0]) ∧ Below w.heap.size w w' := by
 obtain ⟨hs, hk⟩ := fI2 hE
 have hg := sig_good hs
 have hk := whenZ (by decide) hk
 obtain ⟨E, hE0, hE⟩ : ∃ E : Int, E = 0 ∧ firstI [sigE a b c d x y, whenI (rangeB k 0 3) 3] = E := ⟨0, rfl, hE⟩
 obtain ⟨E1, hE1⟩ : ∃ E1, E1 = sigE a b c d x y := ⟨_, rfl⟩
 obtain ⟨zk, hzk⟩ : ∃ zk, zk = whenI (rangeB k 0 3) 3 := ⟨_, rfl⟩
 rw [← hE1, ← hzk] at hE
 have HF : Hid (firstI [E1, zk] = E) := hE
 have HC : Hid (∀ W, Calls Tryz.prog 62 #[.agg #[.int .i64 a, .int .i64 b, .int .i64 c, .int .i64 d, .int .i64 x, .int .i64 y]] W fun e w' => e = .returned (.int .i64 E1) ∧ Below W.heap.size W w') := fun W => by rw [hE1]; exact checkSignal_any a b c d x y W
 have HK : Hid (∀ W, Calls Tryz.prog 89 #[.int .i64 k] W fun e w' => e = .returned (.int .i64 zk) ∧ W = w') := fun W => by rw [hzk]; exact checkTurns_any k W
 obtain ⟨p1, hp1⟩ : ∃ p, p = a * iR k - b * iI k := ⟨_, rfl⟩
 obtain ⟨p2, hp2⟩ : ∃ p, p = a * iI k + b * iR k := ⟨_, rfl⟩
 obtain ⟨p3, hp3⟩ : ∃ p, p = c * iR k - d * iI k := ⟨_, rfl⟩
 obtain ⟨p4, hp4⟩ : ∃ p, p = c * iI k + d * iR k := ⟨_, rfl⟩
 obtain ⟨p5, hp5⟩ : ∃ p, p = x * iR k - y * iI k := ⟨_, rfl⟩
 obtain ⟨p6, hp6⟩ : ∃ p, p = x * iI k + y * iR k := ⟨_, rfl⟩
 have HM : Hid (∀ W, Calls Tryz.prog 90 #[.agg #[.int .i64 a, .int .i64 b, .int .i64 c, .int .i64 d, .int .i64 x, .int .i64 y], .agg #[.int .i64 (iR k), .int .i64 (iI k)], .agg #[.int .i64 (iR k), .int .i64 (iI k)]] W fun e w' => e = .returned (.agg #[.int .i64 p1, .int .i64 p2, .int .i64 p3, .int .i64 p4, .int .i64 p5, .int .i64 p6]) ∧ Below W.heap.size W w') := fun W => by rw [hp1, hp2, hp3, hp4, hp5, hp6]; exact mulS_any a b c d x y (iR k) (iI k) (iR k) (iI k) W hg.g1 hg.g2 hg.g3 (iRI k) (iRI k)
 rw [← hp1, ← hp2, ← hp3, ← hp4, ← hp5, ← hp6]
 have HTU : Hid (∀ W, Tn W → Calls Tryz.prog 91 #[.int .i64 k] W fun e w' => e = .returned (.agg #[.int .i64 (iR k), .int .i64 (iI k)]) ∧ Below W.heap.size W w') := fun W h => turn_any k W h hk
 obtain ⟨u, hu⟩ : ∃ u, u = iR k := ⟨_, rfl⟩
 obtain ⟨v, hv⟩ : ∃ v, v = iI k := ⟨_, rfl⟩
 rw [← hu, ← hv] at HM HTU
 subst hE0
 clear hE hE1 hzk hs hg hk hp1 hp2 hp3 hp4 hp5 hp6 hu hv
 go_enter Tryz.func38, Tryz.ntmps38
 go_upto_region 1 with fail
 refine genT (fun V => Row V (w.heap.size) 50 [.int .i64 a, .int .i64 b, .int .i64 c, .int .i64 d, .int .i64 x, .int .i64 y] ∧ Row V (w.heap.size + 1) 50 [.int .i64 0, .int .i64 0, .int .i64 0, .int .i64 0, .int .i64 0, .int .i64 0] ∧ Tn V ∧ Below w.heap.size w V) ⟨(Row.alloc (rowAt _ _ (by first | rfl | simp only [World.size_alloc])) _), (rowAt _ _ (by first | rfl | simp only [World.size_alloc])), hT.old (((Below.refl _ _).alloc (by first | exact Nat.le_refl _ | (simp only [World.size_alloc]; omega)) _).alloc (by first | exact Nat.le_refl _ | (simp only [World.size_alloc]; omega)) _), (((Below.refl _ _).alloc (by first | exact Nat.le_refl _ | (simp only [World.size_alloc]; omega)) _).alloc (by first | exact Nat.le_refl _ | (simp only [World.size_alloc]; omega)) _)⟩ ?_
 intro W1 s1
 have HS1 := Lib.hid s1
 clear s1 hT
 go_upto_region 4 with (first | (refine wpList_load_row rfl 50 _ rfl (w.heap.size) rfl 50 #[.int .i64 a, .int .i64 b, .int .i64 c, .int .i64 d, .int .i64 x, .int .i64 y] (0, 0) _ HS1.out.1 Tryz.underlying50 rfl ?_ ?_; (kernel_rfl)) | (go_at_call 62; refine (HC.out _).mono ?_; rintro e w2 ⟨rfl, hb_w2⟩; have HS2 : Hid (Row w2 (w.heap.size) 50 [.int .i64 a, .int .i64 b, .int .i64 c, .int .i64 d, .int .i64 x, .int .i64 y] ∧ Row w2 (w.heap.size + 1) 50 [.int .i64 0, .int .i64 0, .int .i64 0, .int .i64 0, .int .i64 0, .int .i64 0] ∧ Tn w2 ∧ Below w.heap.size w w2) := ⟨(HS1.out.1).old hb_w2, (HS1.out.2.1).old hb_w2, (HS1.out.2.2.1).old hb_w2, (HS1.out.2.2.2).trans (hb_w2.mono (HS1.out.2.2.2).size)⟩; clear hb_w2) | (go_at_call 89; refine (HK.out _).mono ?_; rintro e w3 ⟨rfl, rfl⟩) | (go_at_call 74; refine (firstV_any _ _ _ [E1, zk] _ ?_ rfl (by simp)).mono ?_; exact Rd.newT (t := 25); rintro e w9 ⟨rfl, rfl⟩; rw [HF.out]; have HS3 := Lib.hid (⟨(HS2.out.1).old ((Below.refl _ _).alloc (Nat.le_refl _) _), (HS2.out.2.1).old ((Below.refl _ _).alloc (Nat.le_refl _) _), (HS2.out.2.2.1).old ((Below.refl _ _).alloc (Nat.le_refl _) _), (HS2.out.2.2.2).trans (((Below.refl _ _).alloc (Nat.le_refl _) _).mono (HS2.out.2.2.2).size)⟩ : Row (w2.alloc (.cells #[.int .i64 E1, .int .i64 zk] 25)) (w.heap.size) 50 [.int .i64 a, .int .i64 b, .int .i64 c, .int .i64 d, .int .i64 x, .int .i64 y] ∧ Row (w2.alloc (.cells #[.int .i64 E1, .int .i64 zk] 25)) (w.heap.size + 1) 50 [.int .i64 0, .int .i64 0, .int .i64 0, .int .i64 0, .int .i64 0, .int .i64 0] ∧ Tn (w2.alloc (.cells #[.int .i64 E1, .int .i64 zk] 25)) ∧ Below w.heap.size w (w2.alloc (.cells #[.int .i64 E1, .int .i64 zk] 25)))))
 refine genT (fun V => Row V (w.heap.size) 50 [.int .i64 a, .int .i64 b, .int .i64 c, .int .i64 d, .int .i64 x, .int .i64 y] ∧ RowN V (w.heap.size + 1) 50 6 ∧ Tn V ∧ Below w.heap.size w V) ⟨HS3.out.1, ⟨_, rfl, HS3.out.2.1⟩, HS3.out.2.2.1, HS3.out.2.2.2⟩ ?_
 clear HS1 HS2 HS3 HC HK HF
 intro W4 s4
 have HS4 := Lib.hid s4
 clear s4
 refine wp_region_held_drew (S := fun V => Row V (w.heap.size) 50 [.int .i64 a, .int .i64 b, .int .i64 c, .int .i64 d, .int .i64 x, .int .i64 y] ∧ RowN V (w.heap.size + 1) 50 6 ∧ Tn V ∧ Below w.heap.size w V) (by kernel_rfl) ?_ (fun hHeld => ?_)
 · exact ⟨(HS4.out.1).drew, (HS4.out.2.1).drew, (HS4.out.2.2.1).drew, (HS4.out.2.2.2).drew⟩
 refine tk 0 17 (.agg #[.int .i64 a, .int .i64 b, .int .i64 c, .int .i64 d, .int .i64 x, .int .i64 y]) rfl (by kernel_rfl) (fun _ _ _ h => h) (by kernel_rfl) (fun V hV => ex_rowT 50 _ rfl (w.heap.size) rfl 50 [.int .i64 a, .int .i64 b, .int .i64 c, .int .i64 d, .int .i64 x, .int .i64 y] _ Tryz.underlying50 rfl (by kernel_rfl) (hV.1)) hHeld ?_
 try simp only [zz]
 refine tk 1 18 ?_ rfl (by kernel_rfl) (fun _ _ _ h => h) (by kernel_rfl) ?_ hHeld ?_
 rotate_left
 · intro w1 hSw; (try dsimp only at hSw); go_simp <;> with_reducible rfl
 try simp only [zz]
 refine tk 3 20 ?_ rfl (by kernel_rfl) (fun _ _ _ h => h) (by kernel_rfl) ?_ hHeld ?_
 rotate_left
 · intro w1 hSw; (try dsimp only at hSw); go_simp <;> with_reducible rfl
 try simp only [zz]
 refine st1 2 (by kernel_rfl) rfl (fun K hK => ?_)
 go_simp
 go_at_call 91
 refine (HTU.out _ (hHeld.2.2.1)).mono ?_
 rintro e v2 ⟨rfl, hb2⟩
 try go_simp
 refine hK.out _ _ ?_ (fun hHeld => ?_)
 · exact ⟨(hHeld.1).old hb2, (hHeld.2.1).old hb2, (hHeld.2.2.1).old hb2, (hHeld.2.2.2).trans ((hb2).mono (hHeld.2.2.2).size)⟩
 clear hK K
 try simp only [zz]
 refine st1 4 (by kernel_rfl) rfl (fun K hK => ?_)
 go_simp
 go_at_call 91
 refine (HTU.out _ (hHeld.2.2.1)).mono ?_
 rintro e v4 ⟨rfl, hb4⟩
 try go_simp
 refine hK.out _ _ ?_ (fun hHeld => ?_)
 · exact ⟨(hHeld.1).old hb4, (hHeld.2.1).old hb4, (hHeld.2.2.1).old hb4, (hHeld.2.2.2).trans ((hb4).mono (hHeld.2.2.2).size)⟩
 clear hK K
 try simp only [zz]
 refine st1 5 (by kernel_rfl) rfl (fun K hK => ?_)
 go_simp
 go_at_call 90
 refine (HM.out _).mono ?_
 rintro e v5 ⟨rfl, hb5⟩
 try go_simp
 refine hK.out _ _ ?_ (fun hHeld => ?_)
 · exact ⟨(hHeld.1).old hb5, (hHeld.2.1).old hb5, (hHeld.2.2.1).old hb5, (hHeld.2.2.2).trans ((hb5).mono (hHeld.2.2.2).size)⟩
 clear hK K
 try simp only [zz]
 refine st1 6 (by kernel_rfl) rfl (fun K hK => ?_)
 obtain ⟨vs, hvl, hvr⟩ := (hHeld.2.1)
 have hLast := hHeld
 refine step_store_row rfl 50 _ _ rfl (w.heap.size + 1) [.int .i64 p1, .int .i64 p2, .int .i64 p3, .int .i64 p4, .int .i64 p5, .int .i64 p6] rfl rfl 50 vs hvr (by kernel_rfl) hvl (by simp [Value.oneCell']) ?_
 refine hK.out _ _ ?_ (fun hHeld => ?_)
 · exact ⟨(hHeld.1).farRow (by omega) _, ⟨_, rfl, hvr.setRow _⟩, tnSet hHeld.2.2.1 (by omega) _, Below.setRow (hHeld.2.2.2) (by omega) _⟩
 clear hK K
 try simp only [zz]
 refine tk 7 5 ?_ rfl (by kernel_rfl) (fun _ _ _ h => h) (by kernel_rfl) ?_ hHeld ?_
 rotate_left
 · intro w1 hSw; (try dsimp only at hSw); go_simp <;> with_reducible rfl
 try simp only [zz]
 refine wpAnyH_done (by kernel_rfl) ?_ _
 go_wp2_with fail
 refine bodyPost_ret (results_rt rfl _ _ (w.heap.size + 1) 50 #[.int .i64 p1, .int .i64 p2, .int .i64 p3, .int .i64 p4, .int .i64 p5, .int .i64 p6] (0, 0) _ rfl (hvr.setRow [.int .i64 p1, .int .i64 p2, .int .i64 p3, .int .i64 p4, .int .i64 p5, .int .i64 p6]) Tryz.underlying50 rfl (by kernel_rfl)) rfl ⟨rfl, Below.setRow hLast.2.2.2 (by omega) _⟩

theorem firstI_left (l : List Int) (k : List Int) : firstI (firstI l :: k) = firstI (l ++ k) := by
 induction l with
 | nil => rfl
 | cons x l ih =>
   by_cases h : x = 0
   · subst h
     have e1 : firstI (0 :: l) = firstI l := by rw [firstI, if_pos rfl]
     have e2 : firstI (0 :: (l ++ k)) = firstI (l ++ k) := by rw [firstI, if_pos rfl]
     rw [e1, List.cons_append, e2]
     exact ih
   · have e1 : firstI (x :: l) = x := by rw [firstI, if_neg h]
     rw [e1, List.cons_append, firstI, if_neg h, firstI, if_neg h]
theorem sigE_ref (a b c d x y : Int) : firstI [partE 10000 (a, b), partE 10000 (c, d), partE 10000 (x, y), whenI (a == 0 && b == 0) 6] = sigE a b c d x y := by
 unfold sigE
 rw [firstI_left]
 rfl
set_option maxRecDepth 100000 in
set_option maxHeartbeats 1000000 in
theorem checkPartR_any (a b M : Int) (w : World) (hM : M.natAbs ≤ 1000000) : Calls Tryz.prog 72 #[.agg #[.int .i64 a, .int .i64 b], .int .i64 M] w fun e w' => e = .returned (.int .i64 (partE M (a, b))) ∧ Below w.heap.size w w' := by
 have e1 : IntKind.i64.wrap (-M) = -M := IntWalk.i64_in _ (by omega)
 have e2 : IntKind.i64.wrap (0 - M) = -M := by rw [Int.zero_sub]; exact e1
 clear hM
 go_enter Tryz.func72, Tryz.ntmps72
 go_upto_region 1 with fail
 refine genT (fun V => Row V (w.heap.size) 40 [.int .i64 a, .int .i64 b] ∧ Below w.heap.size w V) ⟨(rowAt _ _ (by first | rfl | simp only [World.size_alloc])), ((Below.refl _ _).alloc (by first | exact Nat.le_refl _ | (simp only [World.size_alloc]; omega)) _)⟩ ?_
 intro W1 s1
 have HS1 := Lib.hid s1
 clear s1
 refine wp_region_held_drew (S := fun V => Row V (w.heap.size) 40 [.int .i64 a, .int .i64 b] ∧ Below w.heap.size w V) (by kernel_rfl) ?_ (fun hHeld => ?_)
 · exact ⟨(HS1.out.1).drew, (HS1.out.2).drew⟩
 refine tk 0 5 ?_ rfl (by kernel_rfl) (fun _ _ _ h => h) (by kernel_rfl) ?_ hHeld ?_
 rotate_left
 · intro w1 hSw; (try dsimp only at hSw); go_simp <;> with_reducible rfl
 try simp only [zz]
 refine tk 1 6 ?_ rfl (by kernel_rfl) (fun _ _ _ h => h) (by kernel_rfl) ?_ hHeld ?_
 rotate_left
 · intro w1 hSw; (try dsimp only at hSw); have cc := (hSw.1).cell 0; simp only [List.getElem?_cons_succ, List.getElem?_cons_zero] at cc; go_simp <;> with_reducible rfl
 try simp only [zz]
 refine tk 2 7 ?_ rfl (by kernel_rfl) (fun _ _ _ h => h) (by kernel_rfl) ?_ hHeld ?_
 rotate_left
 · intro w1 hSw; (try dsimp only at hSw); go_simp <;> with_reducible rfl
 try simp only [zz]
 refine tk 3 8 ?_ rfl (by kernel_rfl) (fun _ _ _ h => h) (by kernel_rfl) ?_ hHeld ?_
 rotate_left
 · intro w1 hSw; (try dsimp only at hSw); go_simp <;> with_reducible rfl
 try simp only [zz]
 refine tk 4 9 ?_ rfl (by kernel_rfl) (fun _ _ _ h => h) (by kernel_rfl) ?_ hHeld ?_
 rotate_left
 · intro w1 hSw; (try dsimp only at hSw); go_simp <;> with_reducible rfl
 try simp only [zz]
 refine tk 6 11 ?_ rfl (by kernel_rfl) (fun _ _ _ h => h) (by kernel_rfl) ?_ hHeld ?_
 rotate_left
 · intro w1 hSw; (try dsimp only at hSw); go_simp <;> with_reducible rfl
 try simp only [zz]
 refine tk 7 12 ?_ rfl (by kernel_rfl) (fun _ _ _ h => h) (by kernel_rfl) ?_ hHeld ?_
 rotate_left
 · intro w1 hSw; (try dsimp only at hSw); have cc := (hSw.1).cell 1; simp only [List.getElem?_cons_succ, List.getElem?_cons_zero] at cc; go_simp <;> with_reducible rfl
 try simp only [zz]
 refine tk 8 13 ?_ rfl (by kernel_rfl) (fun _ _ _ h => h) (by kernel_rfl) ?_ hHeld ?_
 rotate_left
 · intro w1 hSw; (try dsimp only at hSw); go_simp <;> with_reducible rfl
 try simp only [zz]
 refine tk 9 14 ?_ rfl (by kernel_rfl) (fun _ _ _ h => h) (by kernel_rfl) ?_ hHeld ?_
 rotate_left
 · intro w1 hSw; (try dsimp only at hSw); go_simp <;> with_reducible rfl
 try simp only [zz]
 refine tk 10 15 ?_ rfl (by kernel_rfl) (fun _ _ _ h => h) (by kernel_rfl) ?_ hHeld ?_
 rotate_left
 · intro w1 hSw; (try dsimp only at hSw); go_simp <;> with_reducible rfl
 try simp only [zz]
 refine st1 5 (by kernel_rfl) rfl (fun K hK => ?_)
 go_simp
 go_at_call 70
 refine (checkRange_any a (-M) M _).mono ?_
 rintro e v5 ⟨rfl, rfl⟩
 try go_simp
 refine hK.out _ _ ?_ (fun hHeld => ?_)
 · exact hHeld
 clear hK K
 try simp only [zz]
 refine st1 11 (by kernel_rfl) rfl (fun K hK => ?_)
 go_simp
 go_at_call 70
 refine (checkRange_any b (-M) M _).mono ?_
 rintro e v11 ⟨rfl, rfl⟩
 try go_simp
 refine hK.out _ _ ?_ (fun hHeld => ?_)
 · exact hHeld
 clear hK K
 try simp only [zz]
 refine st1 12 (by kernel_rfl) rfl (fun K hK => ?_)
 go_simp
 refine hK.out _ _ ?_ (fun hHeld => ?_)
 · exact ⟨(hHeld.1).old ((Below.refl _ _).alloc (Nat.le_refl _) _), (hHeld.2).trans ((((Below.refl _ _).alloc (Nat.le_refl _) _)).mono (hHeld.2).size)⟩
 clear hK K
 try simp only [zz]
 refine st1 13 (by kernel_rfl) rfl (fun K hK => ?_)
 go_simp
 go_at_call 58
 refine (first_any _ _ _ [whenI (rangeB a (-M) M) 3, whenI (rangeB b (-M) M) 3] _ ?_ rfl (by simp)).mono ?_
 · exact Rd.newT (t := 3)
 rintro e v99 ⟨rfl, rfl⟩
 try go_simp
 refine hK.out _ _ ?_ (fun hHeld => ?_)
 · exact hHeld
 clear hK K
 try simp only [zz]
 refine tk 14 4 ?_ rfl (by kernel_rfl) (fun _ _ _ h => h) (by kernel_rfl) ?_ hHeld ?_
 rotate_left
 · intro w1 hSw; (try dsimp only at hSw); go_simp <;> with_reducible rfl
 try simp only [zz]
 refine wpAnyH_done (by kernel_rfl) ?_ _
 go_wp2_with fail
 go_ret
 exact ⟨rfl, hHeld.2⟩
set_option maxRecDepth 100000 in
set_option maxHeartbeats 1000000 in
theorem zeroR_any (a b : Int) (w : World) : Calls Tryz.prog 73 #[.agg #[.int .i64 a, .int .i64 b]] w fun e w' => e = .returned (.bool (a == 0 && b == 0)) ∧ Below w.heap.size w w' := by
 by_cases ha : a = 0
 · have h1 : (a == 0) = true := by simpa using ha
   clear ha
   go_enter Tryz.func73, Tryz.ntmps73
   go_upto_region 1 with fail
   refine genT (fun V => Row V (w.heap.size) 40 [.int .i64 a, .int .i64 b] ∧ Below w.heap.size w V) ⟨(rowAt _ _ (by first | rfl | simp only [World.size_alloc])), ((Below.refl _ _).alloc (by first | exact Nat.le_refl _ | (simp only [World.size_alloc]; omega)) _)⟩ ?_
   intro W1 s1
   have HS1 := Lib.hid s1
   clear s1
   have c0 := HS1.out.1.cell 0; have c1 := HS1.out.1.cell 1
   simp only [List.getElem?_cons_succ, List.getElem?_cons_zero] at c0 c1
   go_wp2_with fail
   go_ret
   exact ⟨by rw [h1]; first | rfl | simp, HS1.out.2⟩
 · have h1 : (a == 0) = false := by simpa using ha
   clear ha
   go_enter Tryz.func73, Tryz.ntmps73
   go_upto_region 1 with fail
   refine genT (fun V => Row V (w.heap.size) 40 [.int .i64 a, .int .i64 b] ∧ Below w.heap.size w V) ⟨(rowAt _ _ (by first | rfl | simp only [World.size_alloc])), ((Below.refl _ _).alloc (by first | exact Nat.le_refl _ | (simp only [World.size_alloc]; omega)) _)⟩ ?_
   intro W1 s1
   have HS1 := Lib.hid s1
   clear s1
   have c0 := HS1.out.1.cell 0; have c1 := HS1.out.1.cell 1
   simp only [List.getElem?_cons_succ, List.getElem?_cons_zero] at c0 c1
   go_wp2_with fail
   go_ret
   exact ⟨by rw [h1]; rfl, HS1.out.2⟩
set_option maxRecDepth 100000 in
set_option maxHeartbeats 1000000 in
theorem checkSignalR_any (a b c d x y : Int) (w : World) : Calls Tryz.prog 26 #[.agg #[.int .i64 a, .int .i64 b, .int .i64 c, .int .i64 d, .int .i64 x, .int .i64 y]] w fun e w' => e = .returned (.int .i64 (sigE a b c d x y)) ∧ Below w.heap.size w w' := by
 rw [← sigE_ref]
 obtain ⟨P1, hP1⟩ : ∃ P, P = partE 10000 (a, b) := ⟨_, rfl⟩
 obtain ⟨P2, hP2⟩ : ∃ P, P = partE 10000 (c, d) := ⟨_, rfl⟩
 obtain ⟨P3, hP3⟩ : ∃ P, P = partE 10000 (x, y) := ⟨_, rfl⟩
 obtain ⟨zb, hzb⟩ : ∃ zb, zb = (a == 0 && b == 0) := ⟨_, rfl⟩
 have HC1 : Hid (∀ W, Calls Tryz.prog 72 #[.agg #[.int .i64 a, .int .i64 b], .int .i64 10000] W fun e w' => e = .returned (.int .i64 P1) ∧ Below W.heap.size W w') := fun W => by rw [hP1]; exact checkPartR_any a b 10000 W (by decide)
 have HC2 : Hid (∀ W, Calls Tryz.prog 72 #[.agg #[.int .i64 c, .int .i64 d], .int .i64 10000] W fun e w' => e = .returned (.int .i64 P2) ∧ Below W.heap.size W w') := fun W => by rw [hP2]; exact checkPartR_any c d 10000 W (by decide)
 have HC3 : Hid (∀ W, Calls Tryz.prog 72 #[.agg #[.int .i64 x, .int .i64 y], .int .i64 10000] W fun e w' => e = .returned (.int .i64 P3) ∧ Below W.heap.size W w') := fun W => by rw [hP3]; exact checkPartR_any x y 10000 W (by decide)
 have HZ : Hid (∀ W, Calls Tryz.prog 73 #[.agg #[.int .i64 a, .int .i64 b]] W fun e w' => e = .returned (.bool zb) ∧ Below W.heap.size W w') := fun W => by rw [hzb]; exact zeroR_any a b W
 rw [← hP1, ← hP2, ← hP3, ← hzb]
 clear hP1 hP2 hP3 hzb
 go_enter Tryz.func26, Tryz.ntmps26
 go_upto_region 1 with fail
 refine genT (fun V => Row V (w.heap.size) 42 [.int .i64 a, .int .i64 b, .int .i64 c, .int .i64 d, .int .i64 x, .int .i64 y] ∧ Below w.heap.size w V) ⟨(rowAt _ _ (by first | rfl | simp only [World.size_alloc])), ((Below.refl _ _).alloc (by first | exact Nat.le_refl _ | (simp only [World.size_alloc]; omega)) _)⟩ ?_
 intro W1 s1
 have HS1 := Lib.hid s1
 clear s1
 refine wp_region_held_drew (S := fun V => Row V (w.heap.size) 42 [.int .i64 a, .int .i64 b, .int .i64 c, .int .i64 d, .int .i64 x, .int .i64 y] ∧ Below w.heap.size w V) (by kernel_rfl) ?_ (fun hHeld => ?_)
 · exact ⟨(HS1.out.1).drew, (HS1.out.2).drew⟩
 refine tk 0 3 ?_ rfl (by kernel_rfl) (fun _ _ _ h => h) (by kernel_rfl) ?_ hHeld ?_
 rotate_left
 · intro w1 hSw; (try dsimp only at hSw); go_simp <;> with_reducible rfl
 try simp only [zz]
 refine tk 1 4 (.agg #[.int .i64 a, .int .i64 b]) rfl (by kernel_rfl) (fun _ _ _ h => h) (by kernel_rfl) (fun V hV => ex_Gauss _ rfl (w.heap.size) 0 rfl ((hV.1).cell 0) ((hV.1).cell 1)) hHeld ?_
 try simp only [zz]
 refine tk 3 6 ?_ rfl (by kernel_rfl) (fun _ _ _ h => h) (by kernel_rfl) ?_ hHeld ?_
 rotate_left
 · intro w1 hSw; (try dsimp only at hSw); go_simp <;> with_reducible rfl
 try simp only [zz]
 refine tk 4 7 (.agg #[.int .i64 c, .int .i64 d]) rfl (by kernel_rfl) (fun _ _ _ h => h) (by kernel_rfl) (fun V hV => ex_Gauss _ rfl (w.heap.size) 2 rfl ((hV.1).cell 2) ((hV.1).cell 3)) hHeld ?_
 try simp only [zz]
 refine tk 6 9 ?_ rfl (by kernel_rfl) (fun _ _ _ h => h) (by kernel_rfl) ?_ hHeld ?_
 rotate_left
 · intro w1 hSw; (try dsimp only at hSw); go_simp <;> with_reducible rfl
 try simp only [zz]
 refine tk 7 10 (.agg #[.int .i64 x, .int .i64 y]) rfl (by kernel_rfl) (fun _ _ _ h => h) (by kernel_rfl) (fun V hV => ex_Gauss _ rfl (w.heap.size) 4 rfl ((hV.1).cell 4) ((hV.1).cell 5)) hHeld ?_
 try simp only [zz]
 refine tk 9 12 ?_ rfl (by kernel_rfl) (fun _ _ _ h => h) (by kernel_rfl) ?_ hHeld ?_
 rotate_left
 · intro w1 hSw; (try dsimp only at hSw); go_simp <;> with_reducible rfl
 try simp only [zz]
 refine tk 10 13 (.agg #[.int .i64 a, .int .i64 b]) rfl (by kernel_rfl) (fun _ _ _ h => h) (by kernel_rfl) (fun V hV => ex_Gauss _ rfl (w.heap.size) 0 rfl ((hV.1).cell 0) ((hV.1).cell 1)) hHeld ?_
 try simp only [zz]
 refine st1 2 (by kernel_rfl) rfl (fun K hK => ?_)
 go_simp
 go_at_call 72
 refine (HC1.out _).mono ?_
 rintro e v2 ⟨rfl, hb2⟩
 try go_simp
 refine hK.out _ _ ?_ (fun hHeld => ?_)
 · exact ⟨(hHeld.1).old hb2, (hHeld.2).trans ((hb2).mono (hHeld.2).size)⟩
 clear hK K
 try simp only [zz]
 refine st1 5 (by kernel_rfl) rfl (fun K hK => ?_)
 go_simp
 go_at_call 72
 refine (HC2.out _).mono ?_
 rintro e v5 ⟨rfl, hb5⟩
 try go_simp
 refine hK.out _ _ ?_ (fun hHeld => ?_)
 · exact ⟨(hHeld.1).old hb5, (hHeld.2).trans ((hb5).mono (hHeld.2).size)⟩
 clear hK K
 try simp only [zz]
 refine st1 8 (by kernel_rfl) rfl (fun K hK => ?_)
 go_simp
 go_at_call 72
 refine (HC3.out _).mono ?_
 rintro e v8 ⟨rfl, hb8⟩
 try go_simp
 refine hK.out _ _ ?_ (fun hHeld => ?_)
 · exact ⟨(hHeld.1).old hb8, (hHeld.2).trans ((hb8).mono (hHeld.2).size)⟩
 clear hK K
 try simp only [zz]
 refine st1 11 (by kernel_rfl) rfl (fun K hK => ?_)
 go_simp
 go_at_call 73
 refine (HZ.out _).mono ?_
 rintro e v11 ⟨rfl, hb11⟩
 try go_simp
 refine hK.out _ _ ?_ (fun hHeld => ?_)
 · exact ⟨(hHeld.1).old hb11, (hHeld.2).trans ((hb11).mono (hHeld.2).size)⟩
 clear hK K
 try simp only [zz]
 refine st1 12 (by kernel_rfl) rfl (fun K hK => ?_)
 go_simp
 go_at_call 59
 refine (when_any zb 6 _).mono ?_
 rintro e v12 ⟨rfl, rfl⟩
 try go_simp
 refine hK.out _ _ ?_ (fun hHeld => ?_)
 · exact hHeld
 clear hK K
 try simp only [zz]
 refine st1 13 (by kernel_rfl) rfl (fun K hK => ?_)
 go_simp
 refine hK.out _ _ ?_ (fun hHeld => ?_)
 · exact ⟨(hHeld.1).old ((Below.refl _ _).alloc (Nat.le_refl _) _), (hHeld.2).trans ((((Below.refl _ _).alloc (Nat.le_refl _) _)).mono (hHeld.2).size)⟩
 clear hK K
 try simp only [zz]
 refine st1 14 (by kernel_rfl) rfl (fun K hK => ?_)
 go_simp
 go_at_call 58
 refine (first_any _ _ _ [P1, P2, P3, whenI zb 6] _ ?_ rfl (by simp)).mono ?_
 · exact Rd.newT (t := 3)
 rintro e v99 ⟨rfl, rfl⟩
 try go_simp
 refine hK.out _ _ ?_ (fun hHeld => ?_)
 · exact hHeld
 clear hK K
 try simp only [zz]
 refine tk 15 2 ?_ rfl (by kernel_rfl) (fun _ _ _ h => h) (by kernel_rfl) ?_ hHeld ?_
 rotate_left
 · intro w1 hSw; (try dsimp only at hSw); go_simp <;> with_reducible rfl
 try simp only [zz]
 refine wpAnyH_done (by kernel_rfl) ?_ _
 go_wp2_with fail
 go_ret
 exact ⟨rfl, hHeld.2⟩
theorem floor_eq {n d : Int} (hd : 0 < d) : (if n < n.tdiv d * d then n.tdiv d - 1 else n.tdiv d) = n / d := by
 by_cases hn : 0 ≤ n
 · have h1 : n.tdiv d = n / d := Int.tdiv_eq_ediv_of_nonneg hn
   have h2 : n / d * d ≤ n := Int.ediv_mul_le n (by omega)
   rw [h1, if_neg (by omega)]
 · have hm : 0 ≤ -n := by omega
   have h1 : n.tdiv d = -((-n) / d) := by
    have h := Int.neg_tdiv n d
    rw [← Int.tdiv_eq_ediv_of_nonneg hm, h, Int.neg_neg]
   obtain ⟨q, hq⟩ : ∃ q, q = (-n) / d := ⟨_, rfl⟩
   obtain ⟨r, hr⟩ : ∃ r, r = (-n) % d := ⟨_, rfl⟩
   have h3 : d * q + r = -n := by rw [hq, hr]; exact Int.mul_ediv_add_emod (-n) d
   have h4 : 0 ≤ r := by rw [hr]; exact Int.emod_nonneg _ (by omega)
   have h5 : r < d := by rw [hr]; exact Int.emod_lt_of_pos _ hd
   rw [h1, ← hq]
   have h6 : -q * d = -(d * q) := by rw [Int.neg_mul, Int.mul_comm]
   rw [h6]
   by_cases hz : r = 0
   · rw [if_neg (by omega)]
     have h7 : n = (-q) * d := by rw [h6]; omega
     rw [h7, Int.mul_ediv_cancel _ (by omega)]
   · rw [if_pos (by omega)]
     have h7 : n = (d - r) + (-q - 1) * d := by
      have : (-q - 1) * d = -(d * q) - d := by rw [Int.sub_mul, h6, Int.one_mul]
      omega
     have h8 : n / d = (d - r) / d + (-q - 1) := by
      conv => lhs; rw [h7]
      exact Int.add_mul_ediv_right _ _ (by omega)
     rw [h8, Int.ediv_eq_zero_of_lt (by omega) (by omega)]
     omega
set_option maxRecDepth 100000 in
set_option maxHeartbeats 1000000 in
theorem floor_any (n d : Int) (w : World) (hn : n.natAbs ≤ 1000000000000000000) (hd : 0 < d ∧ d ≤ 1000000000000000000) : Calls Tryz.prog 130 #[.int .i64 n, .int .i64 d] w fun e w' => e = .returned (.int .i64 (n / d)) ∧ w = w' := by
 have hf := floor_eq (n := n) hd.1
 obtain ⟨q, hq⟩ : ∃ q, q = n.tdiv d := ⟨_, rfl⟩
 rw [← hq] at hf
 have hqb : q.natAbs ≤ n.natAbs := by rw [hq, Int.natAbs_tdiv]; exact Nat.div_le_self _ _
 have hqd : (q * d).natAbs ≤ n.natAbs := by
  rw [hq, Int.natAbs_mul, Int.natAbs_tdiv]
  exact Nat.div_mul_le_self _ _
 have hne : ¬ d = 0 := by omega
 have hne2 : (d == 0) = false := by simpa using hne
 have e1 : IntKind.i64.wrap (n.tdiv d) = q := by rw [← hq]; exact IntWalk.i64_in _ (by omega)
 have e2 : IntKind.i64.wrap (q * d) = q * d := IntWalk.i64_in _ (by omega)
 have e3 : IntKind.i64.wrap (q - 1) = q - 1 := IntWalk.i64_in _ (by omega)
 have HF := Lib.hid hf
 by_cases hc : n < q * d
 · have HR : Hid (n / d = q - 1) := by unfold Hid; rw [← hf, if_pos hc]
   clear hf hq hqb hqd hn hd
   go_enter Tryz.func130, Tryz.ntmps130
   go_wp2_with fail
   go_ret
   exact ⟨by rw [HR.out]; rfl, rfl⟩
 · have HR : Hid (n / d = q) := by unfold Hid; rw [← hf, if_neg hc]
   clear hf hq hqb hqd hn hd
   go_enter Tryz.func130, Tryz.ntmps130
   go_wp2_with fail
   go_ret
   exact ⟨by rw [HR.out]; rfl, rfl⟩
set_option maxRecDepth 100000 in
set_option maxHeartbeats 1000000 in
theorem nearest_any (n d : Int) (w : World) (hn : n.natAbs ≤ 100000000000000000) (hd : 0 < d ∧ d ≤ 100000000000000000) : Calls Tryz.prog 163 #[.int .i64 n, .int .i64 d] w fun e w' => e = .returned (.int .i64 ((2 * n + d) / (2 * d))) ∧ w = w' := by
 have e1 : IntKind.i64.wrap (2 * n) = 2 * n := IntWalk.i64_in _ (by omega)
 have e2 : IntKind.i64.wrap (2 * n + d) = 2 * n + d := IntWalk.i64_in _ (by omega)
 have e3 : IntKind.i64.wrap (2 * d) = 2 * d := IntWalk.i64_in _ (by omega)
 have HF : Hid (∀ W, Calls Tryz.prog 130 #[.int .i64 (2 * n + d), .int .i64 (2 * d)] W fun e w' => e = .returned (.int .i64 ((2 * n + d) / (2 * d))) ∧ W = w') := fun W => floor_any _ _ W (by omega) (by omega)
 clear hn hd
 go_enter Tryz.func163, Tryz.ntmps163
 go_wp2_with (go_at_call 130; refine (HF.out _).mono ?_; rintro e w2 ⟨rfl, rfl⟩)
 go_ret
 exact ⟨rfl, rfl⟩
set_option maxRecDepth 100000 in
set_option maxHeartbeats 1000000 in
theorem floorQ_any (n d : Int) (w : World) (hn : n.natAbs ≤ 1000000000000000000) (hd : 0 < d ∧ d ≤ 1000000000000000000) : Calls Tryz.prog 78 #[.agg #[.int .i64 n, .int .i64 d]] w fun e w' => e = .returned (.int .i64 (n / d)) ∧ Below w.heap.size w w' := by
 have HF : Hid (∀ W, Calls Tryz.prog 130 #[.int .i64 n, .int .i64 d] W fun e w' => e = .returned (.int .i64 (n / d)) ∧ W = w') := fun W => floor_any _ _ W hn hd
 clear hn hd
 go_enter Tryz.func78, Tryz.ntmps78
 go_upto_region 1 with fail
 refine genT (fun V => Row V (w.heap.size) 167 [.int .i64 n, .int .i64 d] ∧ Below w.heap.size w V) ⟨(rowAt _ _ (by first | rfl | simp only [World.size_alloc])), ((Below.refl _ _).alloc (by first | exact Nat.le_refl _ | (simp only [World.size_alloc]; omega)) _)⟩ ?_
 intro W1 s1
 have HS1 := Lib.hid s1
 clear s1
 have c0 := HS1.out.1.cell 0; have c1 := HS1.out.1.cell 1
 simp only [List.getElem?_cons_succ, List.getElem?_cons_zero] at c0 c1
 go_wp2_with (go_at_call 130; refine (HF.out _).mono ?_; rintro e w2 ⟨rfl, rfl⟩)
 go_ret
 exact ⟨rfl, HS1.out.2⟩
set_option maxRecDepth 100000 in
set_option maxHeartbeats 1000000 in
theorem nearestQ_any (n d : Int) (w : World) (hn : n.natAbs ≤ 100000000000000000) (hd : 0 < d ∧ d ≤ 100000000000000000) : Calls Tryz.prog 134 #[.agg #[.int .i64 n, .int .i64 d]] w fun e w' => e = .returned (.int .i64 ((2 * n + d) / (2 * d))) ∧ Below w.heap.size w w' := by
 have HF : Hid (∀ W, Calls Tryz.prog 163 #[.int .i64 n, .int .i64 d] W fun e w' => e = .returned (.int .i64 ((2 * n + d) / (2 * d))) ∧ W = w') := fun W => nearest_any _ _ W hn hd
 clear hn hd
 go_enter Tryz.func134, Tryz.ntmps134
 go_upto_region 1 with fail
 refine genT (fun V => Row V (w.heap.size) 167 [.int .i64 n, .int .i64 d] ∧ Below w.heap.size w V) ⟨(rowAt _ _ (by first | rfl | simp only [World.size_alloc])), ((Below.refl _ _).alloc (by first | exact Nat.le_refl _ | (simp only [World.size_alloc]; omega)) _)⟩ ?_
 intro W1 s1
 have HS1 := Lib.hid s1
 clear s1
 have c0 := HS1.out.1.cell 0; have c1 := HS1.out.1.cell 1
 simp only [List.getElem?_cons_succ, List.getElem?_cons_zero] at c0 c1
 go_wp2_with (go_at_call 163; refine (HF.out _).mono ?_; rintro e w2 ⟨rfl, rfl⟩)
 go_ret
 exact ⟨rfl, HS1.out.2⟩
set_option maxRecDepth 100000 in
set_option maxHeartbeats 1000000 in
theorem timesQ_any (n d m p : Int) (w : World) (h1 : (n * m).natAbs ≤ 9000000000000000000) (h2 : (d * p).natAbs ≤ 9000000000000000000) : Calls Tryz.prog 131 #[.agg #[.int .i64 n, .int .i64 d], .agg #[.int .i64 m, .int .i64 p]] w fun e w' => e = .returned (.agg #[.int .i64 (n * m), .int .i64 (d * p)]) ∧ Below w.heap.size w w' := by
 have e1 : IntKind.i64.wrap (n * m) = n * m := IntWalk.i64_in _ (by omega)
 have e2 : IntKind.i64.wrap (d * p) = d * p := IntWalk.i64_in _ (by omega)
 clear h1 h2
 go_enter Tryz.func131, Tryz.ntmps131
 go_upto_region 1 with fail
 refine genT (fun V => Row V (w.heap.size) 167 [.int .i64 n, .int .i64 d] ∧ Row V (w.heap.size + 1) 167 [.int .i64 m, .int .i64 p] ∧ Row V (w.heap.size + 1 + 1) 167 [.int .i64 0, .int .i64 0] ∧ Below w.heap.size w V) ⟨(Row.alloc (Row.alloc (rowAt _ _ (by first | rfl | simp only [World.size_alloc])) _) _), (Row.alloc (rowAt _ _ (by first | rfl | simp only [World.size_alloc])) _), (rowAt _ _ (by first | rfl | simp only [World.size_alloc])), ((((Below.refl _ _).alloc (by first | exact Nat.le_refl _ | (simp only [World.size_alloc]; omega)) _).alloc (by first | exact Nat.le_refl _ | (simp only [World.size_alloc]; omega)) _).alloc (by first | exact Nat.le_refl _ | (simp only [World.size_alloc]; omega)) _)⟩ ?_
 intro W1 s1
 have HS1 := Lib.hid s1
 clear s1
 have c0 := HS1.out.1.cell 0; have c1 := HS1.out.1.cell 1; have d0 := HS1.out.2.1.cell 0; have d1 := HS1.out.2.1.cell 1
 simp only [List.getElem?_cons_succ, List.getElem?_cons_zero] at c0 c1 d0 d1
 go_wp2_with (refine wpList_store_row rfl 167 _ _ rfl (w.heap.size + 1 + 1) #[.int .i64 (n * m), .int .i64 (d * p)] rfl rfl 167 _ HS1.out.2.2.1 ?_ ?_ ?_ ?_; (kernel_rfl); (rfl); (simp [Value.oneCell']))
 refine bodyPost_ret (results_rowA rfl _ _ (w.heap.size + 1 + 1) 167 #[.int .i64 (n * m), .int .i64 (d * p)] (0, 0) _ rfl (HS1.out.2.2.1.setRow [.int .i64 (n * m), .int .i64 (d * p)]) Tryz.underlying167 rfl (by kernel_rfl)) rfl ⟨rfl, Below.setRow HS1.out.2.2.2 (by omega) _⟩
set_option maxRecDepth 100000 in
set_option maxHeartbeats 1000000 in
theorem integer_anyT (n : Int) (w : World) : Calls Tryz.prog 98 #[.int .i64 n] w fun e w' => e = .returned (.agg #[.int .i64 n, .int .i64 1]) ∧ Below w.heap.size w w' := by
 go_enter Tryz.func98, Tryz.ntmps98
 go_upto_region 1 with fail
 refine genT (fun V => Row V (w.heap.size) 167 [.int .i64 0, .int .i64 0] ∧ Below w.heap.size w V) ⟨(rowAt _ _ (by first | rfl | simp only [World.size_alloc])), ((Below.refl _ _).alloc (by first | exact Nat.le_refl _ | (simp only [World.size_alloc]; omega)) _)⟩ ?_
 intro W1 s1
 have HS1 := Lib.hid s1
 clear s1
 go_wp2_with (refine wpList_store_row rfl 167 _ _ rfl (w.heap.size) #[.int .i64 n, .int .i64 1] rfl rfl 167 _ HS1.out.1 ?_ ?_ ?_ ?_; (kernel_rfl); (rfl); (simp [Value.oneCell']))
 refine bodyPost_ret (results_rowA rfl _ _ (w.heap.size) 167 #[.int .i64 n, .int .i64 1] (0, 0) _ rfl (HS1.out.1.setRow [.int .i64 n, .int .i64 1]) Tryz.underlying167 rfl (by kernel_rfl)) rfl ⟨rfl, Below.setRow HS1.out.2 (by omega) _⟩
def cmpI (a b : Int) : Int := if a < b then -1 else if b < a then 1 else 0
set_option maxRecDepth 100000 in
set_option maxHeartbeats 1000000 in
theorem isNaN64_any (a : Int) (w : World) : Calls Tryz.prog 165 #[.int .i64 a] w fun e w' => e = .returned (.bool false) ∧ w = w' := by
 go_enter Tryz.func165, Tryz.ntmps165
 go_wp2
 go_ret
 exact ⟨by simp, rfl⟩
set_option maxRecDepth 100000 in
set_option maxHeartbeats 1000000 in
theorem cmp64_any (a b : Int) (w : World) : Calls Tryz.prog 142 #[.int .i64 a, .int .i64 b] w fun e w' => e = .returned (.int .i64 (cmpI a b)) ∧ w = w' := by
 rcases Int.lt_trichotomy a b with h | h | h
 · have HR : Hid (cmpI a b = -1) := by unfold Hid cmpI; rw [if_pos h]
   go_enter Tryz.func142, Tryz.ntmps142
   go_wp2_with (go_at_call 165; refine (isNaN64_any _ _).mono ?_; rintro e w2 ⟨rfl, rfl⟩)
   go_ret
   exact ⟨by rw [HR.out]; rfl, rfl⟩
 · have HR : Hid (cmpI a b = 0) := by unfold Hid cmpI; rw [if_neg (by omega), if_neg (by omega)]
   have h1 : ¬ a < b := by omega
   have h2 : ¬ b < a := by omega
   clear h
   go_enter Tryz.func142, Tryz.ntmps142
   go_wp2_with (go_at_call 165; refine (isNaN64_any _ _).mono ?_; rintro e w2 ⟨rfl, rfl⟩)
   go_ret
   exact ⟨by rw [HR.out]; rfl, rfl⟩
 · have HR : Hid (cmpI a b = 1) := by unfold Hid cmpI; rw [if_neg (by omega), if_pos h]
   have h1 : ¬ a < b := by omega
   go_enter Tryz.func142, Tryz.ntmps142
   go_wp2_with (go_at_call 165; refine (isNaN64_any _ _).mono ?_; rintro e w2 ⟨rfl, rfl⟩)
   go_ret
   exact ⟨by rw [HR.out]; rfl, rfl⟩
set_option maxRecDepth 100000 in
set_option maxHeartbeats 1000000 in
theorem compareQ_any (n d m p : Int) (w : World) (h1 : (n * p).natAbs ≤ 9000000000000000000) (h2 : (m * d).natAbs ≤ 9000000000000000000) : Calls Tryz.prog 95 #[.agg #[.int .i64 n, .int .i64 d], .agg #[.int .i64 m, .int .i64 p]] w fun e w' => e = .returned (.int .i64 (cmpI (n * p) (m * d))) ∧ Below w.heap.size w w' := by
 have e1 : IntKind.i64.wrap (n * p) = n * p := IntWalk.i64_in _ (by omega)
 have e2 : IntKind.i64.wrap (m * d) = m * d := IntWalk.i64_in _ (by omega)
 clear h1 h2
 go_enter Tryz.func95, Tryz.ntmps95
 go_upto_region 1 with fail
 refine genT (fun V => Row V (w.heap.size) 167 [.int .i64 n, .int .i64 d] ∧ Row V (w.heap.size + 1) 167 [.int .i64 m, .int .i64 p] ∧ Below w.heap.size w V) ⟨(Row.alloc (rowAt _ _ (by first | rfl | simp only [World.size_alloc])) _), (rowAt _ _ (by first | rfl | simp only [World.size_alloc])), (((Below.refl _ _).alloc (by first | exact Nat.le_refl _ | (simp only [World.size_alloc]; omega)) _).alloc (by first | exact Nat.le_refl _ | (simp only [World.size_alloc]; omega)) _)⟩ ?_
 intro W1 s1
 have HS1 := Lib.hid s1
 clear s1
 have c0 := HS1.out.1.cell 0; have c1 := HS1.out.1.cell 1; have d0 := HS1.out.2.1.cell 0; have d1 := HS1.out.2.1.cell 1
 simp only [List.getElem?_cons_succ, List.getElem?_cons_zero] at c0 c1 d0 d1
 go_wp2_with (go_at_call 142; refine (cmp64_any _ _ _).mono ?_; rintro e w2 ⟨rfl, rfl⟩)
 go_ret
 exact ⟨rfl, HS1.out.2.2⟩
def shownI (scale full n d : Int) : Int := max (-full) (min full ((2 * (n * scale) + d) / (2 * d)))
set_option maxRecDepth 100000 in
set_option maxHeartbeats 1000000 in
theorem shown_any (rs rf rl ra rb n d : Int) (w : World) (hs : 1 ≤ rs ∧ rs ≤ 1000) (hf : 1 ≤ rf ∧ rf ≤ 1000) (hn : n.natAbs ≤ 10000000000000) (hd : 0 < d ∧ d ≤ 10000000000000) : Calls Tryz.prog 84 #[.agg #[.int .i64 rs, .int .i64 rf, .int .i64 rl, .int .i64 ra, .int .i64 rb], .agg #[.int .i64 n, .int .i64 d]] w fun e w' => e = .returned (.int .i64 (shownI rs rf n d)) ∧ Below w.heap.size w w' := by
 have b1 : (n * rs).natAbs ≤ 10000000000000 * 1000 := by rw [Int.natAbs_mul]; exact Nat.mul_le_mul hn (by omega)
 have hd1 : d * 1 = d := Int.mul_one d
 have HI : Hid (∀ W, Calls Tryz.prog 98 #[.int .i64 rs] W fun e w' => e = .returned (.agg #[.int .i64 rs, .int .i64 1]) ∧ Below W.heap.size W w') := fun W => integer_anyT rs W
 have HT : Hid (∀ W, Calls Tryz.prog 131 #[.agg #[.int .i64 n, .int .i64 d], .agg #[.int .i64 rs, .int .i64 1]] W fun e w' => e = .returned (.agg #[.int .i64 (n * rs), .int .i64 d]) ∧ Below W.heap.size W w') := fun W => by have h := timesQ_any n d rs 1 W (by omega) (by omega); rw [hd1] at h; exact h
 obtain ⟨p, hp⟩ : ∃ p, p = (2 * (n * rs) + d) / (2 * d) := ⟨_, rfl⟩
 have HN : Hid (∀ W, Calls Tryz.prog 134 #[.agg #[.int .i64 (n * rs), .int .i64 d]] W fun e w' => e = .returned (.int .i64 p) ∧ Below W.heap.size W w') := fun W => by rw [hp]; exact nearestQ_any (n * rs) d W (by omega) (by omega)
 obtain ⟨nr, hnr⟩ : ∃ nr, nr = n * rs := ⟨_, rfl⟩
 have hsh : shownI rs rf n d = max (-rf) (min rf p) := by unfold shownI; rw [← hp]
 rw [← hnr] at HT HN
 have e1 : IntKind.i64.wrap (-rf) = -rf := IntWalk.i64_in _ (by omega)
 have e2 : IntKind.i64.wrap (0 - rf) = -rf := by rw [Int.zero_sub]; exact e1
 have HF : Hid (1 ≤ rf) := hf.1
 rw [hsh]
 clear hs hf hn hd b1 hd1 hp hnr hsh
 go_enter Tryz.func84, Tryz.ntmps84
 go_upto_region 1 with fail
 refine genT (fun V => Row V (w.heap.size) 74 [.int .i64 rs, .int .i64 rf, .int .i64 rl, .int .i64 ra, .int .i64 rb] ∧ Row V (w.heap.size + 1) 167 [.int .i64 n, .int .i64 d] ∧ Below w.heap.size w V) ⟨(Row.alloc (rowAt _ _ (by first | rfl | simp only [World.size_alloc])) _), (rowAt _ _ (by first | rfl | simp only [World.size_alloc])), (((Below.refl _ _).alloc (by first | exact Nat.le_refl _ | (simp only [World.size_alloc]; omega)) _).alloc (by first | exact Nat.le_refl _ | (simp only [World.size_alloc]; omega)) _)⟩ ?_
 intro W1 s1
 have HS1 := Lib.hid s1
 clear s1
 refine wp_region_held_drew (S := fun V => Row V (w.heap.size) 74 [.int .i64 rs, .int .i64 rf, .int .i64 rl, .int .i64 ra, .int .i64 rb] ∧ Row V (w.heap.size + 1) 167 [.int .i64 n, .int .i64 d] ∧ Below w.heap.size w V) (by kernel_rfl) ?_ (fun hHeld => ?_)
 · exact ⟨(HS1.out.1).drew, (HS1.out.2.1).drew, (HS1.out.2.2).drew⟩
 refine tk 0 6 (.agg #[.int .i64 n, .int .i64 d]) rfl (by kernel_rfl) (fun _ _ _ h => h) (by kernel_rfl) (fun V hV => ex_rowT 167 _ rfl (w.heap.size + 1) rfl 167 [.int .i64 n, .int .i64 d] _ Tryz.underlying167 rfl (by kernel_rfl) (hV.2.1)) hHeld ?_
 try simp only [zz]
 refine tk 1 7 ?_ rfl (by kernel_rfl) (fun _ _ _ h => h) (by kernel_rfl) ?_ hHeld ?_
 rotate_left
 · intro w1 hSw; (try dsimp only at hSw); go_simp <;> with_reducible rfl
 try simp only [zz]
 refine tk 2 8 ?_ rfl (by kernel_rfl) (fun _ _ _ h => h) (by kernel_rfl) ?_ hHeld ?_
 rotate_left
 · intro w1 hSw; (try dsimp only at hSw); have cc := (hSw.1).cell 0; simp only [List.getElem?_cons_succ, List.getElem?_cons_zero] at cc; go_simp <;> with_reducible rfl
 try simp only [zz]
 refine st1 3 (by kernel_rfl) rfl (fun K hK => ?_)
 go_simp
 go_at_call 98
 refine (HI.out _).mono ?_
 rintro e v3 ⟨rfl, hb3⟩
 try go_simp
 refine hK.out _ _ ?_ (fun hHeld => ?_)
 · exact ⟨(hHeld.1).old hb3, (hHeld.2.1).old hb3, (hHeld.2.2).trans ((hb3).mono (hHeld.2.2).size)⟩
 clear hK K
 try simp only [zz]
 refine st1 4 (by kernel_rfl) rfl (fun K hK => ?_)
 go_simp
 go_at_call 131
 refine (HT.out _).mono ?_
 rintro e v4 ⟨rfl, hb4⟩
 try go_simp
 refine hK.out _ _ ?_ (fun hHeld => ?_)
 · exact ⟨(hHeld.1).old hb4, (hHeld.2.1).old hb4, (hHeld.2.2).trans ((hb4).mono (hHeld.2.2).size)⟩
 clear hK K
 try simp only [zz]
 refine st1 5 (by kernel_rfl) rfl (fun K hK => ?_)
 go_simp
 go_at_call 134
 refine (HN.out _).mono ?_
 rintro e v5 ⟨rfl, hb5⟩
 try go_simp
 refine hK.out _ _ ?_ (fun hHeld => ?_)
 · exact ⟨(hHeld.1).old hb5, (hHeld.2.1).old hb5, (hHeld.2.2).trans ((hb5).mono (hHeld.2.2).size)⟩
 clear hK K
 try simp only [zz]
 refine tk 6 5 ?_ rfl (by kernel_rfl) (fun _ _ _ h => h) (by kernel_rfl) ?_ hHeld ?_
 rotate_left
 · intro w1 hSw; (try dsimp only at hSw); go_simp <;> with_reducible rfl
 try simp only [zz]
 refine wpAnyH_done (by kernel_rfl) ?_ _
 have c1 := hHeld.1.cell 1
 simp only [List.getElem?_cons_succ, List.getElem?_cons_zero] at c1
 go_wp2_with fail
 all_goals go_ret
 all_goals exact ⟨ret_int (by have := HF.out; omega), hHeld.2.2⟩
theorem ex_Interval {o : Oper} {a : Act} {w : World} {u v : Value} (x : Operand) (ho : o.op = .load 61 x) (g off : Nat) (hx : a.eval x = .pointer (some ⟨g, off, none⟩)) (c0 : w.cell? ⟨g, off, none⟩ = some u) (c1 : w.cell? ⟨g, off + 1, none⟩ = some v) :
 (execOp a.eval o).run Tryz.prog w = .ok (.value (.agg #[u, v])) w := by
 unfold execOp
 simp only [ho, hx]
 go_simp
def ivE (lo hi low high : Int) : Int := firstI [whenI (rangeB lo low high) 3, whenI (rangeB hi low high) 3, whenI (decide (hi < lo)) 11]
def recE (rs rf rl ra rb : Int) : Int := firstI [whenI (rangeB rs 1 1000) 3, whenI (rangeB rf 1 1000) 3, whenI (rangeB rl 0 200000000) 3, ivE ra rb (-10000) 10000]
set_option maxRecDepth 100000 in
set_option maxHeartbeats 1000000 in
theorem checkReceiver_of (rs rf rl ra rb : Int) (w : World) (HI : ∀ W, Calls Tryz.prog 79 #[.agg #[.int .i64 ra, .int .i64 rb], .int .i64 (-10000), .int .i64 10000] W fun e w' => e = .returned (.int .i64 (ivE ra rb (-10000) 10000)) ∧ Below W.heap.size W w') : Calls Tryz.prog 75 #[.agg #[.int .i64 rs, .int .i64 rf, .int .i64 rl, .int .i64 ra, .int .i64 rb]] w fun e w' => e = .returned (.int .i64 (recE rs rf rl ra rb)) ∧ Below w.heap.size w w' := by
 have HI := Lib.hid HI
 unfold recE
 obtain ⟨E4, hE4⟩ : ∃ E4, E4 = ivE ra rb (-10000) 10000 := ⟨_, rfl⟩
 rw [← hE4] at HI ⊢
 clear hE4
 go_enter Tryz.func75, Tryz.ntmps75
 go_upto_region 1 with fail
 refine genT (fun V => Row V (w.heap.size) 74 [.int .i64 rs, .int .i64 rf, .int .i64 rl, .int .i64 ra, .int .i64 rb] ∧ Below w.heap.size w V) ⟨Row.new w _ [.int .i64 rs, .int .i64 rf, .int .i64 rl, .int .i64 ra, .int .i64 rb], (Below.refl _ _).alloc (Nat.le_refl _) _⟩ ?_
 intro W1 s1
 have HS1 := Lib.hid s1
 clear s1
 refine wp_region_held_drew (S := fun V => Row V (w.heap.size) 74 [.int .i64 rs, .int .i64 rf, .int .i64 rl, .int .i64 ra, .int .i64 rb] ∧ Below w.heap.size w V) (by kernel_rfl) ?_ (fun hHeld => ?_)
 · exact ⟨(HS1.out.1).drew, (HS1.out.2).drew⟩
 refine tk 0 3 ?_ rfl (by kernel_rfl) (fun _ _ _ h => h) (by kernel_rfl) ?_ hHeld ?_
 rotate_left
 · intro w1 hSw; (try dsimp only at hSw); go_simp <;> with_reducible rfl
 try simp only [zz]
 refine tk 1 4 ?_ rfl (by kernel_rfl) (fun _ _ _ h => h) (by kernel_rfl) ?_ hHeld ?_
 rotate_left
 · intro w1 hSw; (try dsimp only at hSw); have cc := (hSw.1).cell 0; simp only [List.getElem?_cons_succ, List.getElem?_cons_zero] at cc; go_simp <;> with_reducible rfl
 try simp only [zz]
 refine tk 3 6 ?_ rfl (by kernel_rfl) (fun _ _ _ h => h) (by kernel_rfl) ?_ hHeld ?_
 rotate_left
 · intro w1 hSw; (try dsimp only at hSw); go_simp <;> with_reducible rfl
 try simp only [zz]
 refine tk 4 7 ?_ rfl (by kernel_rfl) (fun _ _ _ h => h) (by kernel_rfl) ?_ hHeld ?_
 rotate_left
 · intro w1 hSw; (try dsimp only at hSw); have cc := (hSw.1).cell 1; simp only [List.getElem?_cons_succ, List.getElem?_cons_zero] at cc; go_simp <;> with_reducible rfl
 try simp only [zz]
 refine tk 6 9 ?_ rfl (by kernel_rfl) (fun _ _ _ h => h) (by kernel_rfl) ?_ hHeld ?_
 rotate_left
 · intro w1 hSw; (try dsimp only at hSw); go_simp <;> with_reducible rfl
 try simp only [zz]
 refine tk 7 10 ?_ rfl (by kernel_rfl) (fun _ _ _ h => h) (by kernel_rfl) ?_ hHeld ?_
 rotate_left
 · intro w1 hSw; (try dsimp only at hSw); have cc := (hSw.1).cell 2; simp only [List.getElem?_cons_succ, List.getElem?_cons_zero] at cc; go_simp <;> with_reducible rfl
 try simp only [zz]
 refine tk 9 12 ?_ rfl (by kernel_rfl) (fun _ _ _ h => h) (by kernel_rfl) ?_ hHeld ?_
 rotate_left
 · intro w1 hSw; (try dsimp only at hSw); go_simp <;> with_reducible rfl
 try simp only [zz]
 refine tk 10 13 (.agg #[.int .i64 ra, .int .i64 rb]) rfl (by kernel_rfl) (fun _ _ _ h => h) (by kernel_rfl) (fun V hV => ex_Interval _ rfl (w.heap.size) 3 rfl ((hV.1).cell 3) ((hV.1).cell 4)) hHeld ?_
 try simp only [zz]
 refine st1 2 (by kernel_rfl) rfl (fun K hK => ?_)
 go_simp
 go_at_call 77
 refine (between_any rs 1 1000 _).mono ?_
 rintro e v2 ⟨rfl, rfl⟩
 try go_simp
 refine hK.out _ _ ?_ (fun hHeld => ?_)
 · exact hHeld
 clear hK K
 try simp only [zz]
 refine st1 5 (by kernel_rfl) rfl (fun K hK => ?_)
 go_simp
 go_at_call 77
 refine (between_any rf 1 1000 _).mono ?_
 rintro e v5 ⟨rfl, rfl⟩
 try go_simp
 refine hK.out _ _ ?_ (fun hHeld => ?_)
 · exact hHeld
 clear hK K
 try simp only [zz]
 refine st1 8 (by kernel_rfl) rfl (fun K hK => ?_)
 go_simp
 go_at_call 77
 refine (between_any rl 0 200000000 _).mono ?_
 rintro e v8 ⟨rfl, rfl⟩
 try go_simp
 refine hK.out _ _ ?_ (fun hHeld => ?_)
 · exact hHeld
 clear hK K
 try simp only [zz]
 refine st1 11 (by kernel_rfl) rfl (fun K hK => ?_)
 go_simp
 go_at_call 79
 refine (HI.out _).mono ?_
 rintro e v11 ⟨rfl, hb11⟩
 try go_simp
 refine hK.out _ _ ?_ (fun hHeld => ?_)
 · exact ⟨(hHeld.1).old hb11, (hHeld.2).trans ((hb11).mono (hHeld.2).size)⟩
 clear hK K
 try simp only [zz]
 refine st1 12 (by kernel_rfl) rfl (fun K hK => ?_)
 go_simp
 refine hK.out _ _ ?_ (fun hHeld => ?_)
 · exact ⟨(hHeld.1).old ((Below.refl _ _).alloc (Nat.le_refl _) _), (hHeld.2).trans ((((Below.refl _ _).alloc (Nat.le_refl _) _)).mono (hHeld.2).size)⟩
 clear hK K
 try simp only [zz]
 refine st1 13 (by kernel_rfl) rfl (fun K hK => ?_)
 go_simp
 go_at_call 74
 refine (firstV_any _ _ _ [whenI (rangeB rs 1 1000) 3, whenI (rangeB rf 1 1000) 3, whenI (rangeB rl 0 200000000) 3, E4] _ ?_ rfl (by simp)).mono ?_
 · exact Rd.newT (t := 25)
 rintro e v13 ⟨rfl, rfl⟩
 try go_simp
 refine hK.out _ _ ?_ (fun hHeld => ?_)
 · exact hHeld
 clear hK K
 try simp only [zz]
 refine tk 14 2 ?_ rfl (by kernel_rfl) (fun _ _ _ h => h) (by kernel_rfl) ?_ hHeld ?_
 rotate_left
 · intro w1 hSw; (try dsimp only at hSw); go_simp <;> with_reducible rfl
 try simp only [zz]
 refine wpAnyH_done (by kernel_rfl) ?_ _
 go_wp2_with fail
 go_ret
 exact ⟨rfl, hHeld.2⟩
def nEq : Value → Value → Bool
 | .int _ a, .int _ b => a == b
 | _, _ => false
set_option maxRecDepth 100000 in
theorem isAggI (w : World) : (isAgg 3).run Tryz.prog w = .ok false w := by kernel_rfl
set_option maxRecDepth 100000 in
theorem eqInt2 (a b c d : Int) (w : World) : (Op.equalIn 10000 220 (.agg #[.int .i64 a, .int .i64 b]) (.agg #[.int .i64 c, .int .i64 d])).run Tryz.prog w = .ok (a == c && b == d) w := by
 obtain ⟨i, hi, _⟩ := Option.map_eq_some_iff.1 (show (Tryz.prog.info? 3).map (·.size) = some 1 by kernel_rfl)
 have h := run_eqArray (P := Tryz.prog) w 9999 220 3 2 i nEq [.int .i64 a, .int .i64 b] [.int .i64 c, .int .i64 d] Tryz.underlying220 hi (by kernel_rfl) (part_scalar w _ isAggI) ?_ rfl rfl
 · rw [show all2 nEq [.int .i64 a, .int .i64 b] [.int .i64 c, .int .i64 d] = (a == c && b == d) by simp [all2, nEq]] at h
   exact h
 intro j hj
 match j, hj with
 | 0, _ => exact run_equalIn_int w 9998 _ .i64 .i64 _ _ Tryz.underlying3
 | 1, _ => exact run_equalIn_int w 9998 _ .i64 .i64 _ _ Tryz.underlying3
theorem neqInt2 (a b c d : Int) (w : World) : (binOp .neq 220 (.agg #[.int .i64 a, .int .i64 b]) (.agg #[.int .i64 c, .int .i64 d])).run Tryz.prog w = .ok (.bool (!(a == c && b == d))) w := by
 rw [run_neq_struct, eqInt2]; rfl
set_option maxRecDepth 100000 in
set_option maxHeartbeats 1000000 in
theorem checkInterval_any (lo hi low high : Int) (w : World) : Calls Tryz.prog 79 #[.agg #[.int .i64 lo, .int .i64 hi], .int .i64 low, .int .i64 high] w fun e w' => e = .returned (.int .i64 (ivE lo hi low high)) ∧ Below w.heap.size w w' := by
 obtain ⟨mn, hmn⟩ : ∃ mn, mn = (if hi < lo then hi else lo) := ⟨_, rfl⟩
 obtain ⟨mx, hmx⟩ : ∃ mx, mx = (if lo < hi then hi else lo) := ⟨_, rfl⟩
 have hz : ∀ w, (binOp .neq 220 (.agg #[.int .i64 lo, .int .i64 hi]) (.agg #[.int .i64 mn, .int .i64 mx])).run Tryz.prog w = .ok (.bool (decide (hi < lo))) w := fun w => by
  rw [neqInt2]
  have e : (!(lo == mn && hi == mx)) = decide (hi < lo) := by
   by_cases h : hi < lo
   · have h1 : (lo == mn) = false := by simpa using (by omega : lo ≠ mn)
     simp [h, h1]
   · have h1 : (lo == mn) = true := by simpa using (by omega : lo = mn)
     have h2 : (hi == mx) = true := by simpa using (by omega : hi = mx)
     simp [h, h1, h2]
  rw [e]
 unfold ivE
 obtain ⟨zb, hzb⟩ : ∃ zb, zb = decide (hi < lo) := ⟨_, rfl⟩
 rw [← hzb] at hz ⊢
 clear hzb
 go_enter Tryz.func79, Tryz.ntmps79
 go_upto_region 1 with fail
 refine genT (fun V => Row V (w.heap.size) 61 [.int .i64 lo, .int .i64 hi] ∧ Below w.heap.size w V) ⟨(rowAt _ _ (by first | rfl | simp only [World.size_alloc])), ((Below.refl _ _).alloc (by first | exact Nat.le_refl _ | (simp only [World.size_alloc]; omega)) _)⟩ ?_
 intro W1 s1
 have HS1 := Lib.hid s1
 clear s1
 have d0 := HS1.out.1.cell 0; have d1 := HS1.out.1.cell 1
 simp only [List.getElem?_cons_succ, List.getElem?_cons_zero] at d0 d1
 go_upto_region 2 with (first
  | (refine wpList_store_row rfl 220 _ _ rfl (W1.heap.size) #[.int .i64 lo, .int .i64 hi] rfl rfl 220 _ (Row.new W1 220 [.int .i64 0, .int .i64 0]) ?_ ?_ ?_ ?_; (kernel_rfl); (rfl); (simp [Value.oneCell'])))
 have hbn : Below W1.heap.size W1 ((W1.alloc (.cells #[.int .i64 0, .int .i64 0] 220)).setRow W1.heap.size #[.int .i64 lo, .int .i64 hi]) := Below.setRow ((Below.refl _ _).alloc (Nat.le_refl _) _) (Nat.le_refl _) _
 refine genT (fun V => Row V (w.heap.size) 61 [.int .i64 lo, .int .i64 hi] ∧ Row V (W1.heap.size) 220 [.int .i64 lo, .int .i64 hi] ∧ Below w.heap.size w V) ⟨HS1.out.1.old hbn, (Row.new W1 220 [.int .i64 0, .int .i64 0]).setRow _, HS1.out.2.trans (hbn.mono HS1.out.2.size)⟩ ?_
 intro W2 s2
 have HS2 := Lib.hid s2
 clear s2 hbn d0 d1
 have d0 := HS2.out.1.cell 0; have d1 := HS2.out.1.cell 1
 simp only [List.getElem?_cons_succ, List.getElem?_cons_zero] at d0 d1
 go_upto_region 3 with (first
  | (refine wpList_store_row rfl 220 _ _ rfl (W2.heap.size) #[.int .i64 (if hi < lo then hi else lo), .int .i64 (if lo < hi then hi else lo)] rfl rfl 220 _ (Row.new W2 220 [.int .i64 0, .int .i64 0]) ?_ ?_ ?_ ?_; (kernel_rfl); (rfl); (simp [Value.oneCell'])))
 rw [← hmn, ← hmx]
 clear hmn hmx d0 d1
 have hbn : Below W2.heap.size W2 ((W2.alloc (.cells #[.int .i64 0, .int .i64 0] 220)).setRow W2.heap.size #[.int .i64 mn, .int .i64 mx]) := Below.setRow ((Below.refl _ _).alloc (Nat.le_refl _) _) (Nat.le_refl _) _
 refine genT (fun V => Row V (w.heap.size) 61 [.int .i64 lo, .int .i64 hi] ∧ Row V (W1.heap.size) 220 [.int .i64 lo, .int .i64 hi] ∧ Row V (W2.heap.size) 220 [.int .i64 mn, .int .i64 mx] ∧ Below w.heap.size w V) ⟨HS2.out.1.old hbn, HS2.out.2.1.old hbn, (Row.new W2 220 [.int .i64 0, .int .i64 0]).setRow _, HS2.out.2.2.trans (hbn.mono HS2.out.2.2.size)⟩ ?_
 intro W3 s3
 have HS3 := Lib.hid s3
 clear s3 hbn
 refine wp_region_held_drew (S := fun V => Row V (w.heap.size) 61 [.int .i64 lo, .int .i64 hi] ∧ Row V (W1.heap.size) 220 [.int .i64 lo, .int .i64 hi] ∧ Row V (W2.heap.size) 220 [.int .i64 mn, .int .i64 mx] ∧ Below w.heap.size w V) (by kernel_rfl) ?_ (fun hHeld => ?_)
 · exact ⟨(HS3.out.1).drew, (HS3.out.2.1).drew, (HS3.out.2.2.1).drew, (HS3.out.2.2.2).drew⟩
 refine tk 0 25 ?_ rfl (by kernel_rfl) (fun _ _ _ h => h) (by kernel_rfl) ?_ hHeld ?_
 rotate_left
 · intro w1 hSw; (try dsimp only at hSw); go_simp <;> with_reducible rfl
 try simp only [zz]
 refine tk 1 26 ?_ rfl (by kernel_rfl) (fun _ _ _ h => h) (by kernel_rfl) ?_ hHeld ?_
 rotate_left
 · intro w1 hSw; (try dsimp only at hSw); have cc := (hSw.1).cell 0; simp only [List.getElem?_cons_succ, List.getElem?_cons_zero] at cc; go_simp <;> with_reducible rfl
 try simp only [zz]
 refine tk 2 27 ?_ rfl (by kernel_rfl) (fun _ _ _ h => h) (by kernel_rfl) ?_ hHeld ?_
 rotate_left
 · intro w1 hSw; (try dsimp only at hSw); go_simp <;> with_reducible rfl
 try simp only [zz]
 refine tk 3 28 ?_ rfl (by kernel_rfl) (fun _ _ _ h => h) (by kernel_rfl) ?_ hHeld ?_
 rotate_left
 · intro w1 hSw; (try dsimp only at hSw); go_simp <;> with_reducible rfl
 try simp only [zz]
 refine tk 5 30 ?_ rfl (by kernel_rfl) (fun _ _ _ h => h) (by kernel_rfl) ?_ hHeld ?_
 rotate_left
 · intro w1 hSw; (try dsimp only at hSw); go_simp <;> with_reducible rfl
 try simp only [zz]
 refine tk 6 31 ?_ rfl (by kernel_rfl) (fun _ _ _ h => h) (by kernel_rfl) ?_ hHeld ?_
 rotate_left
 · intro w1 hSw; (try dsimp only at hSw); have cc := (hSw.1).cell 1; simp only [List.getElem?_cons_succ, List.getElem?_cons_zero] at cc; go_simp <;> with_reducible rfl
 try simp only [zz]
 refine tk 7 32 ?_ rfl (by kernel_rfl) (fun _ _ _ h => h) (by kernel_rfl) ?_ hHeld ?_
 rotate_left
 · intro w1 hSw; (try dsimp only at hSw); go_simp <;> with_reducible rfl
 try simp only [zz]
 refine tk 8 33 ?_ rfl (by kernel_rfl) (fun _ _ _ h => h) (by kernel_rfl) ?_ hHeld ?_
 rotate_left
 · intro w1 hSw; (try dsimp only at hSw); go_simp <;> with_reducible rfl
 try simp only [zz]
 refine tk 10 35 (.agg #[.int .i64 lo, .int .i64 hi]) rfl (by kernel_rfl) (fun _ _ _ h => h) (by kernel_rfl) (fun V hV => ex_rowT 220 _ rfl (W1.heap.size) rfl 220 [.int .i64 lo, .int .i64 hi] _ Tryz.underlying220 rfl (by kernel_rfl) (hV.2.1)) hHeld ?_
 try simp only [zz]
 refine tk 11 36 (.agg #[.int .i64 mn, .int .i64 mx]) rfl (by kernel_rfl) (fun _ _ _ h => h) (by kernel_rfl) (fun V hV => ex_rowT 220 _ rfl (W2.heap.size) rfl 220 [.int .i64 mn, .int .i64 mx] _ Tryz.underlying220 rfl (by kernel_rfl) (hV.2.2.1)) hHeld ?_
 try simp only [zz]
 refine tk 12 37 ?_ rfl (by kernel_rfl) (fun _ _ _ h => h) (by kernel_rfl) ?_ hHeld ?_
 rotate_left
 · intro w1 hSw; (try dsimp only at hSw); go_simp <;> with_reducible rfl
 try simp only [zz]
 refine st1 4 (by kernel_rfl) rfl (fun K hK => ?_)
 go_simp
 go_at_call 77
 refine (between_any lo low high _).mono ?_
 rintro e v4 ⟨rfl, rfl⟩
 try go_simp
 refine hK.out _ _ ?_ (fun hHeld => ?_)
 · exact hHeld
 clear hK K
 try simp only [zz]
 refine st1 9 (by kernel_rfl) rfl (fun K hK => ?_)
 go_simp
 go_at_call 77
 refine (between_any hi low high _).mono ?_
 rintro e v9 ⟨rfl, rfl⟩
 try go_simp
 refine hK.out _ _ ?_ (fun hHeld => ?_)
 · exact hHeld
 clear hK K
 try simp only [zz]
 refine st1 13 (by kernel_rfl) rfl (fun K hK => ?_)
 go_simp
 go_at_call 93
 refine (failed_any zb 11 _).mono ?_
 rintro e v13 ⟨rfl, rfl⟩
 try go_simp
 refine hK.out _ _ ?_ (fun hHeld => ?_)
 · exact hHeld
 clear hK K
 try simp only [zz]
 refine st1 14 (by kernel_rfl) rfl (fun K hK => ?_)
 go_simp
 refine hK.out _ _ ?_ (fun hHeld => ?_)
 · exact ⟨(hHeld.1).old ((Below.refl _ _).alloc (Nat.le_refl _) _), (hHeld.2.1).old ((Below.refl _ _).alloc (Nat.le_refl _) _), (hHeld.2.2.1).old ((Below.refl _ _).alloc (Nat.le_refl _) _), (hHeld.2.2.2).trans ((((Below.refl _ _).alloc (Nat.le_refl _) _)).mono (hHeld.2.2.2).size)⟩
 clear hK K
 try simp only [zz]
 refine st1 15 (by kernel_rfl) rfl (fun K hK => ?_)
 go_simp
 go_at_call 74
 refine (firstV_any _ _ _ [whenI (rangeB lo low high) 3, whenI (rangeB hi low high) 3, whenI zb 11] _ ?_ rfl (by simp)).mono ?_
 · exact Rd.newT (t := 25)
 rintro e v13 ⟨rfl, rfl⟩
 try go_simp
 refine hK.out _ _ ?_ (fun hHeld => ?_)
 · exact hHeld
 clear hK K
 try simp only [zz]
 refine tk 16 6 ?_ rfl (by kernel_rfl) (fun _ _ _ h => h) (by kernel_rfl) ?_ hHeld ?_
 rotate_left
 · intro w1 hSw; (try dsimp only at hSw); go_simp <;> with_reducible rfl
 try simp only [zz]
 refine wpAnyH_done (by kernel_rfl) ?_ _
 go_wp2_with fail
 go_ret
 exact ⟨rfl, hHeld.2.2.2⟩
set_option maxRecDepth 100000 in
set_option maxHeartbeats 1000000 in
theorem checkReceiver_any (rs rf rl ra rb : Int) (w : World) : Calls Tryz.prog 75 #[.agg #[.int .i64 rs, .int .i64 rf, .int .i64 rl, .int .i64 ra, .int .i64 rb]] w fun e w' => e = .returned (.int .i64 (recE rs rf rl ra rb)) ∧ Below w.heap.size w w' := by
 exact checkReceiver_of rs rf rl ra rb w (fun W => checkInterval_any ra rb (-10000) 10000 W)
theorem flat_getS {α : Type} (f : α → List Value) (m : Nat) (hf : ∀ x, (f x).length = m) (l : List α) (k : Nat) (hk : k < l.length) (j : Nat) (hj : j < m) : (l.flatMap f)[k * m + j]? = (f l[k])[j]? := by
 induction l generalizing k with
 | nil => simp at hk
 | cons p l ih =>
   cases k with
   | zero =>
     rw [List.flatMap_cons, Nat.zero_mul, Nat.zero_add, List.getElem?_append_left (by rw [hf]; exact hj)]; rfl
   | succ k =>
     have e : (k + 1) * m + j = m + (k * m + j) := by rw [Nat.succ_mul]; omega
     rw [List.flatMap_cons, e, List.getElem?_append_right (by rw [hf]; omega), hf, Nat.add_sub_cancel_left]
     exact ih k (by simpa using hk)
structure Sg where
 a : Int
 b : Int
 c : Int
 d : Int
 x : Int
 y : Int
def Sg.L (s : Sg) : List Value := [.int .i64 s.a, .int .i64 s.b, .int .i64 s.c, .int .i64 s.d, .int .i64 s.x, .int .i64 s.y]
def sgE (s : Sg) : Int := sigE s.a s.b s.c s.d s.x s.y
def sgC (l : List Sg) : List Value := l.flatMap Sg.L
theorem Rd.sg {w : World} {A : Option Addr} {l : List Sg} (h : Rd w A (sgC l)) {k : Nat} (hk : k < l.length) : ∃ b off, A = some ⟨b, off, none⟩ ∧ w.cell? ⟨b, off + k * 6, none⟩ = some (.int .i64 l[k].a) ∧ w.cell? ⟨b, off + k * 6 + 1, none⟩ = some (.int .i64 l[k].b) ∧ w.cell? ⟨b, off + k * 6 + 2, none⟩ = some (.int .i64 l[k].c) ∧ w.cell? ⟨b, off + k * 6 + 3, none⟩ = some (.int .i64 l[k].d) ∧ w.cell? ⟨b, off + k * 6 + 4, none⟩ = some (.int .i64 l[k].x) ∧ w.cell? ⟨b, off + k * 6 + 5, none⟩ = some (.int .i64 l[k].y) := by
 have g := fun j hj => flat_getS Sg.L 6 (fun _ => rfl) l k hk j hj
 obtain ⟨b, o, e, c0⟩ := h (k * 6 + 0) _ (g 0 (by decide))
 have st : ∀ j v, (sgC l)[k * 6 + j]? = some v → w.cell? ⟨b, o + k * 6 + j, none⟩ = some v := fun j v hv => by
  obtain ⟨b', o', e', c⟩ := h _ _ hv
  rw [e] at e'
  cases e'
  rw [Nat.add_assoc]; exact c
 exact ⟨b, o, e, st 0 _ (g 0 (by decide)), st 1 _ (g 1 (by decide)), st 2 _ (g 2 (by decide)), st 3 _ (g 3 (by decide)), st 4 _ (g 4 (by decide)), st 5 _ (g 5 (by decide))⟩
def sgsE (l : List Sg) : Int := firstI [whenI (decide (l.length = 0)) 12, if 256 < l.length then 5 else firstI (l.map sgE)]
set_option maxRecDepth 100000 in
set_option maxHeartbeats 1000000 in
theorem mappedS_any (A : Option Addr) (c : Nat) (l : List Sg) (w : World) (hA : Rd w A (sgC l)) (hm : l.length ≤ 1000) :
 Calls Tryz.prog 178 #[.slice A l.length c, .func (.func 62) #[] #[]] w fun e w' => ∃ g, e = .returned (.slice (some ⟨g, 0, none⟩) l.length l.length) ∧ Row w' g 25 (ints (l.map sgE)) ∧ w.heap.size ≤ g ∧ Below w.heap.size w w' := by
 have hmk := fun W : World => make1 (P := Tryz.prog) 211 25 (.int .i64 0) 8 Tryz.underlying211 info27 rfl l.length (by omega) (by omega) W
 go_enter Tryz.func178, Tryz.ntmps178
 go_wp2
 go_loopw [13] (fun i wr => ∃ k : Nat, k ≤ l.length ∧ i = .int .i64 k ∧ Row wr w.heap.size 25 (ints ((l.map sgE).take k) ++ List.replicate (l.length - k) (.int .i64 0)) ∧ Below w.heap.size w wr) (fun i _ => l.length - (intOf i).toNat)
 case atStart => exact ⟨0, Nat.zero_le _, rfl, by have := Row.new w 25 (List.replicate l.length (.int .i64 0)); simpa [ints] using this, (Below.refl _ _).alloc (Nat.le_refl _) _⟩
 case round =>
  obtain ⟨k, hk, rfl, hrow, hb⟩ := hrel
  by_cases hlt : k < l.length
  · obtain ⟨b0, off, rfl, q0, q1, q2, q3, q4, q5⟩ := Rd.sg (hA.below hb) hlt
    have hset := Lib.hid (part_set (l.map sgE) l.length k (by simpa using hlt) (by simp))
    have hfk := Lib.hid (show (l.map sgE)[k]'(by simpa using hlt) = sgE l[k] by simp)
    obtain ⟨⟨a, b, cc, d, x, y⟩, hs⟩ : ∃ s, s = l[k] := ⟨_, rfl⟩
    rw [← hs] at q0 q1 q2 q3 q4 q5 hfk
    dsimp only at q0 q1 q2 q3 q4 q5
    have HP : Hid (∀ W, Calls Tryz.prog 62 #[.agg #[.int .i64 a, .int .i64 b, .int .i64 cc, .int .i64 d, .int .i64 x, .int .i64 y]] W fun e w' => e = .returned (.int .i64 (sigE a b cc d x y)) ∧ Below W.heap.size W w') := fun W => checkSignal_any a b cc d x y W
    have hbn : Below wr.heap.size wr ((wr.alloc (.cells #[.int .i64 0, .int .i64 0, .int .i64 0, .int .i64 0, .int .i64 0, .int .i64 0] 50)).setRow wr.heap.size #[.int .i64 a, .int .i64 b, .int .i64 cc, .int .i64 d, .int .i64 x, .int .i64 y]) := Below.setRow ((Below.refl _ _).alloc (Nat.le_refl _) _) (Nat.le_refl _) _
    have Hrow := Lib.hid (hrow.old hbn)
    have Hb := Lib.hid (hb.trans (hbn.mono hb.size))
    have Hn : Hid (Row ((wr.alloc (.cells #[.int .i64 0, .int .i64 0, .int .i64 0, .int .i64 0, .int .i64 0, .int .i64 0] 50)).setRow wr.heap.size #[.int .i64 a, .int .i64 b, .int .i64 cc, .int .i64 d, .int .i64 x, .int .i64 y]) wr.heap.size 50 [.int .i64 a, .int .i64 b, .int .i64 cc, .int .i64 d, .int .i64 x, .int .i64 y]) := (Row.new wr 50 [.int .i64 0, .int .i64 0, .int .i64 0, .int .i64 0, .int .i64 0, .int .i64 0]).setRow _
    have hfk2 : Hid ((l.map sgE)[k]'(by simpa using hlt) = sigE a b cc d x y) := hfk.out
    obtain ⟨E1, hE1⟩ : ∃ E1, E1 = sigE a b cc d x y := ⟨_, rfl⟩
    rw [← hE1] at HP hfk2
    clear hrow hb hs hbn hE1 hfk
    go_wp2_with (first
     | (refine wpList_store_row rfl 50 _ _ rfl (wr.heap.size) #[.int .i64 a, .int .i64 b, .int .i64 cc, .int .i64 d, .int .i64 x, .int .i64 y] rfl rfl 50 _ (Row.new wr 50 [.int .i64 0, .int .i64 0, .int .i64 0, .int .i64 0, .int .i64 0, .int .i64 0]) ?_ ?_ ?_ ?_; (kernel_rfl); (rfl); (simp [Value.oneCell']))
     | (refine wpList_load_row rfl 50 _ rfl (wr.heap.size) rfl 50 #[.int .i64 a, .int .i64 b, .int .i64 cc, .int .i64 d, .int .i64 x, .int .i64 y] (0, 0) _ Hn.out Tryz.underlying50 rfl ?_ ?_; (kernel_rfl)))
    refine (HP.out _).mono ?_
    rintro e w1 ⟨rfl, hb1⟩
    have Hrow1 := Lib.hid (Hrow.out.old hb1)
    have hc1 : w1.cell? ⟨w.heap.size, k, none⟩ = some (.int .i64 0) := by
     rw [Hrow1.out.cell]
     exact mid_get _ _ _ _ (by simp [ints]; omega) hlt
    have hf1 := Hrow1.out.free k
    have Hb1 := Lib.hid (Hb.out.trans (hb1.mono Hb.out.size))
    clear hb1 q0 q1 q2 q3 q4 q5
    go_wp2
    go_roundw
    case rel => exact ⟨k + 1, by omega, by go_num, by rw [← hset.out, hfk2.out]; exact Hrow1.out.set k _, Hb1.out.setCell (by simp) _⟩
    case measure => simp [intOf]; omega
  · obtain rfl : k = l.length := by omega
    go_wp2
    go_ret
    exact ⟨_, rfl, by rw [Nat.sub_self, List.replicate_zero, List.append_nil, List.take_of_length_le (by simp)] at hrow; exact hrow, Nat.le_refl _, hb⟩
set_option maxRecDepth 100000 in
set_option maxHeartbeats 1000000 in
theorem checkListS_any (A : Option Addr) (c : Nat) (l : List Sg) (w : World) (hA : Rd w A (sgC l)) (hm : l.length ≤ 1000000) :
 Calls Tryz.prog 149 #[.slice A l.length c, .int .i64 256, .func (.func 62) #[] #[]] w fun e w' => e = .returned (.int .i64 (if 256 < l.length then 5 else firstI (l.map sgE))) ∧ Below w.heap.size w w' := by
 by_cases h : 256 < l.length
 · have h1 : decide ((256 : Int) < (l.length : Int)) = true := by simpa using (by omega : (256 : Int) < (l.length : Int))
   rw [if_pos h]
   have H := Lib.hid h
   have h2 : (256 : Int) < (l.length : Int) := by omega
   clear h
   go_enter Tryz.func149, Tryz.ntmps149
   go_wp2
   go_ret
   exact ⟨rfl, Below.refl _ _⟩
 · have h1 : decide ((256 : Int) < (l.length : Int)) = false := by simpa using (by omega : (l.length : Int) ≤ (256 : Int))
   rw [if_neg h]
   have h2 : ¬ (256 : Int) < (l.length : Int) := by omega
   have HM := Lib.hid (mappedS_any A c l w hA (by omega))
   have HL : Hid (l.length ≤ 256) := by show _ ≤ _; omega
   clear h hA hm
   go_enter Tryz.func149, Tryz.ntmps149
   go_wp2_with fail
   refine HM.out.mono ?_
   rintro e w1 ⟨g, rfl, hrow, hg, hb⟩
   have HB1 := Lib.hid hb
   clear hb
   go_wp2_with fail
   refine (firstV_any _ _ _ (l.map sgE) _ (Rd.row hrow) (by simp) (by have := HL.out; simp; omega)).mono ?_
   rintro e w2 ⟨rfl, rfl⟩
   go_wp2
   go_ret
   exact ⟨rfl, HB1.out⟩
set_option maxRecDepth 100000 in
set_option maxHeartbeats 1000000 in
theorem checkSomeS_any (A : Option Addr) (c : Nat) (l : List Sg) (w : World) (hA : Rd w A (sgC l)) (hm : l.length ≤ 1000000) :
 Calls Tryz.prog 110 #[.slice A l.length c, .int .i64 256, .func (.func 62) #[] #[]] w fun e w' => e = .returned (.int .i64 (sgsE l)) ∧ Below w.heap.size w w' := by
 have HC := Lib.hid (checkListS_any A c l w hA hm)
 unfold sgsE
 obtain ⟨E2, hE2⟩ : ∃ E2, E2 = (if 256 < l.length then 5 else firstI (l.map sgE)) := ⟨_, rfl⟩
 rw [← hE2] at HC ⊢
 obtain ⟨zb, hzb⟩ : ∃ zb, zb = decide (l.length = 0) := ⟨_, rfl⟩
 rw [← hzb]
 obtain ⟨n, hn⟩ : ∃ n, n = l.length := ⟨_, rfl⟩
 rw [← hn] at HC hzb ⊢
 have z1 : ((n : Int) == 0) = zb := by
  rw [hzb]; cases n <;> simp
  omega
 have z2 : decide (n = 0) = zb := hzb.symm
 clear hE2 hzb hn hA hm
 go_enter Tryz.func110, Tryz.ntmps110
 go_wp2_with (first
  | (go_at_call 93; refine (failed_any zb 12 _).mono ?_; rintro e w' ⟨rfl, rfl⟩)
  | (go_at_call 149; refine HC.out.mono ?_; rintro e w1 ⟨rfl, hb1⟩; have HB1 := Lib.hid hb1; clear hb1)
  | (go_at_call 74; refine (firstV_any _ _ _ [whenI zb 12, E2] _ Rd.newT rfl (by simp)).mono ?_; rintro e w2 ⟨rfl, rfl⟩))
 go_ret
 exact ⟨rfl, HB1.out.alloc HB1.out.size _⟩
set_option maxRecDepth 100000 in
set_option maxHeartbeats 1000000 in
theorem checkSignals_any (A : Option Addr) (c : Nat) (l : List Sg) (w : World) (hA : Rd w A (sgC l)) (hm : l.length ≤ 1000000) :
 Calls Tryz.prog 51 #[.slice A l.length c] w fun e w' => e = .returned (.int .i64 (sgsE l)) ∧ Below w.heap.size w w' := by
 have HC := Lib.hid (checkSomeS_any A c l w hA hm)
 clear hA hm
 go_enter Tryz.func51, Tryz.ntmps51
 go_wp2_with fail
 refine HC.out.mono ?_
 rintro e w1 ⟨rfl, hb1⟩
 go_wp2
 go_ret
 exact ⟨rfl, hb1⟩
end Go.Proofs.YtgbkblbfgknheaaGreatDoor
