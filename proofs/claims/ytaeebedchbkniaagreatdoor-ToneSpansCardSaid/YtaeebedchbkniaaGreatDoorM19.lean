import Derived.Test.YtaeebedchbkniaaGreatDoorM15
namespace Go.Proofs.YtaeebedchbkniaaGreatDoor
set_option linter.all false
open Go.RowKit Go.Fl
theorem SigG.sq {a b c d x y : Int} (h : SigG a b c d x y) : (a * a + b * b).natAbs ≤ 200000000 := by
 have ha := h.pa; have hb := h.pb
 have b1 : (a * a).natAbs ≤ 10000 * 10000 := by rw [Int.natAbs_mul]; exact Nat.mul_le_mul (by omega) (by omega)
 have b2 : (b * b).natAbs ≤ 10000 * 10000 := by rw [Int.natAbs_mul]; exact Nat.mul_le_mul (by omega) (by omega)
 omega
set_option maxRecDepth 100000 in
set_option maxHeartbeats 1000000 in
theorem checkTwo_any (a b c d x y k l m n u v t : Int) (w : World) : Calls Tryz.prog 115 #[.agg #[.int .i64 a, .int .i64 b, .int .i64 c, .int .i64 d, .int .i64 x, .int .i64 y, .int .i64 k, .int .i64 l, .int .i64 m, .int .i64 n, .int .i64 u, .int .i64 v], .int .i64 t] w fun e w' => e = .returned (.int .i64 (firstI [sigE a b c d x y, sigE k l m n u v, whenI (rangeB t 1000 10000) 3])) ∧ Below w.heap.size w w' := by
 obtain ⟨E1, hE1⟩ : ∃ E1, E1 = sigE a b c d x y := ⟨_, rfl⟩
 obtain ⟨E2, hE2⟩ : ∃ E2, E2 = sigE k l m n u v := ⟨_, rfl⟩
 have HC1 : Hid (∀ W, Calls Tryz.prog 64 #[.agg #[.int .i64 a, .int .i64 b, .int .i64 c, .int .i64 d, .int .i64 x, .int .i64 y]] W fun e w' => e = .returned (.int .i64 E1) ∧ Below W.heap.size W w') := fun W => by rw [hE1]; exact checkSignal_any a b c d x y W
 have HC2 : Hid (∀ W, Calls Tryz.prog 64 #[.agg #[.int .i64 k, .int .i64 l, .int .i64 m, .int .i64 n, .int .i64 u, .int .i64 v]] W fun e w' => e = .returned (.int .i64 E2) ∧ Below W.heap.size W w') := fun W => by rw [hE2]; exact checkSignal_any k l m n u v W
 rw [← hE1, ← hE2]
 clear hE1 hE2
 go_enter Tryz.func115, Tryz.ntmps115
 go_upto_region 1 with fail
 refine genT (fun V => Row V (w.heap.size) 105 [.int .i64 a, .int .i64 b, .int .i64 c, .int .i64 d, .int .i64 x, .int .i64 y, .int .i64 k, .int .i64 l, .int .i64 m, .int .i64 n, .int .i64 u, .int .i64 v] ∧ Below w.heap.size w V) ⟨(rowAt _ _ (by first | rfl | simp only [World.size_alloc])), ((Below.refl _ _).alloc (by first | exact Nat.le_refl _ | (simp only [World.size_alloc]; omega)) _)⟩ ?_
 intro W1 s1
 have HS1 := Lib.hid s1
 clear s1
 refine wp_region_held_drew (S := fun V => Row V (w.heap.size) 105 [.int .i64 a, .int .i64 b, .int .i64 c, .int .i64 d, .int .i64 x, .int .i64 y, .int .i64 k, .int .i64 l, .int .i64 m, .int .i64 n, .int .i64 u, .int .i64 v] ∧ Below w.heap.size w V) (by kernel_rfl) ?_ (fun hHeld => ?_)
 · exact ⟨(HS1.out.1).drew, (HS1.out.2).drew⟩
 refine tk 0 5 ?_ rfl (by kernel_rfl) (fun _ _ _ h => h) (by kernel_rfl) ?_ hHeld ?_
 rotate_left
 · intro w1 hSw; (try dsimp only at hSw); go_simp <;> with_reducible rfl
 try simp only [zz]
 refine tk 1 6 (.agg #[.int .i64 a, .int .i64 b, .int .i64 c, .int .i64 d, .int .i64 x, .int .i64 y]) rfl (by kernel_rfl) (fun _ _ _ h => h) (by kernel_rfl) (fun V hV => ex_Signal _ rfl (w.heap.size) 0 rfl ((hV.1).cell 0) ((hV.1).cell 1) ((hV.1).cell 2) ((hV.1).cell 3) ((hV.1).cell 4) ((hV.1).cell 5)) hHeld ?_
 try simp only [zz]
 refine tk 3 8 ?_ rfl (by kernel_rfl) (fun _ _ _ h => h) (by kernel_rfl) ?_ hHeld ?_
 rotate_left
 · intro w1 hSw; (try dsimp only at hSw); go_simp <;> with_reducible rfl
 try simp only [zz]
 refine tk 4 9 (.agg #[.int .i64 k, .int .i64 l, .int .i64 m, .int .i64 n, .int .i64 u, .int .i64 v]) rfl (by kernel_rfl) (fun _ _ _ h => h) (by kernel_rfl) (fun V hV => ex_Signal _ rfl (w.heap.size) 6 rfl ((hV.1).cell 6) ((hV.1).cell 7) ((hV.1).cell 8) ((hV.1).cell 9) ((hV.1).cell 10) ((hV.1).cell 11)) hHeld ?_
 try simp only [zz]
 refine tk 6 11 ?_ rfl (by kernel_rfl) (fun _ _ _ h => h) (by kernel_rfl) ?_ hHeld ?_
 rotate_left
 · intro w1 hSw; (try dsimp only at hSw); go_simp <;> with_reducible rfl
 try simp only [zz]
 refine st1 2 (by kernel_rfl) rfl (fun K hK => ?_)
 go_simp
 go_at_call 64
 refine (HC1.out _).mono ?_
 rintro e v2 ⟨rfl, hb2⟩
 try go_simp
 refine hK.out _ _ ?_ (fun hHeld => ?_)
 · exact ⟨(hHeld.1).old hb2, (hHeld.2).trans ((hb2).mono (hHeld.2).size)⟩
 clear hK K
 try simp only [zz]
 refine st1 5 (by kernel_rfl) rfl (fun K hK => ?_)
 go_simp
 go_at_call 64
 refine (HC2.out _).mono ?_
 rintro e v5 ⟨rfl, hb5⟩
 try go_simp
 refine hK.out _ _ ?_ (fun hHeld => ?_)
 · exact ⟨(hHeld.1).old hb5, (hHeld.2).trans ((hb5).mono (hHeld.2).size)⟩
 clear hK K
 try simp only [zz]
 refine st1 7 (by kernel_rfl) rfl (fun K hK => ?_)
 go_simp
 go_at_call 62
 refine (between_any t 1000 10000 _).mono ?_
 rintro e v7 ⟨rfl, rfl⟩
 try go_simp
 refine hK.out _ _ ?_ (fun hHeld => ?_)
 · exact hHeld
 clear hK K
 try simp only [zz]
 refine st1 8 (by kernel_rfl) rfl (fun K hK => ?_)
 go_simp
 refine hK.out _ _ ?_ (fun hHeld => ?_)
 · exact ⟨(hHeld.1).old ((Below.refl _ _).alloc (Nat.le_refl _) _), (hHeld.2).trans ((((Below.refl _ _).alloc (Nat.le_refl _) _)).mono (hHeld.2).size)⟩
 clear hK K
 try simp only [zz]
 refine st1 9 (by kernel_rfl) rfl (fun K hK => ?_)
 go_simp
 go_at_call 61
 refine (firstV_any _ _ _ [E1, E2, whenI (rangeB t 1000 10000) 3] _ ?_ rfl (by simp)).mono ?_
 · exact Rd.newT (t := 31)
 rintro e v99 ⟨rfl, rfl⟩
 try go_simp
 refine hK.out _ _ ?_ (fun hHeld => ?_)
 · exact hHeld
 clear hK K
 try simp only [zz]
 refine tk 10 4 ?_ rfl (by kernel_rfl) (fun _ _ _ h => h) (by kernel_rfl) ?_ hHeld ?_
 rotate_left
 · intro w1 hSw; (try dsimp only at hSw); go_simp <;> with_reducible rfl
 try simp only [zz]
 refine wpAnyH_done (by kernel_rfl) ?_ _
 go_wp2_with fail
 go_ret
 exact ⟨rfl, hHeld.2⟩
set_option maxRecDepth 100000 in
set_option maxHeartbeats 1000000 in
theorem capturedT_ok (a b c d x y k l m n u v t : Int) (w : World) (hE : firstI [sigE a b c d x y, sigE k l m n u v, whenI (rangeB t 1000 10000) 3] = 0) : Calls Tryz.prog 50 #[.agg #[.int .i64 a, .int .i64 b, .int .i64 c, .int .i64 d, .int .i64 x, .int .i64 y, .int .i64 k, .int .i64 l, .int .i64 m, .int .i64 n, .int .i64 u, .int .i64 v], .int .i64 t] w fun e w' => e = .returned (.tuple #[.int .i64 (capI (a * a + b * b) (k * k + l * l) t), .int .i64 0]) ∧ Below w.heap.size w w' := by
 obtain ⟨hs1, hs2, hs3⟩ := fI3 hE
 have hg := sig_good hs1
 have hk := sig_good hs2
 have hs3 := whenZ (by decide) hs3
 have ht : 1000 ≤ t ∧ t ≤ 10000 := by
  unfold rangeB at hs3
  simp only [Bool.or_eq_false_iff, decide_eq_false_iff_not] at hs3
  omega
 have bp := hg.sq
 have bq := hk.sq
 have HC : Hid (∀ W, Calls Tryz.prog 115 #[.agg #[.int .i64 a, .int .i64 b, .int .i64 c, .int .i64 d, .int .i64 x, .int .i64 y, .int .i64 k, .int .i64 l, .int .i64 m, .int .i64 n, .int .i64 u, .int .i64 v], .int .i64 t] W fun e w' => e = .returned (.int .i64 0) ∧ Below W.heap.size W w') := fun W => by have h := checkTwo_any a b c d x y k l m n u v t W; rw [hE] at h; exact h
 have HK : Hid (∀ W, Calls Tryz.prog 116 #[.agg #[.int .i64 a, .int .i64 b, .int .i64 c, .int .i64 d, .int .i64 x, .int .i64 y, .int .i64 k, .int .i64 l, .int .i64 m, .int .i64 n, .int .i64 u, .int .i64 v], .int .i64 t] W fun e w' => e = .returned (.int .i64 (capI (a * a + b * b) (k * k + l * l) t)) ∧ Below W.heap.size W w') := fun W => captured_any a b c d x y k l m n u v t _ _ W hg.g1 hk.g1 rfl rfl (by omega) (by omega) (by omega)
 obtain ⟨K, hK⟩ : ∃ K, K = capI (a * a + b * b) (k * k + l * l) t := ⟨_, rfl⟩
 rw [← hK] at HK ⊢
 clear hE hs1 hs2 hs3 hg hk ht bp bq hK
 go_enter Tryz.func50, Tryz.ntmps50
 go_upto_region 1 with fail
 refine genT (fun V => Row V (w.heap.size) 105 [.int .i64 a, .int .i64 b, .int .i64 c, .int .i64 d, .int .i64 x, .int .i64 y, .int .i64 k, .int .i64 l, .int .i64 m, .int .i64 n, .int .i64 u, .int .i64 v] ∧ Below w.heap.size w V) ⟨(rowAt _ _ (by first | rfl | simp only [World.size_alloc])), ((Below.refl _ _).alloc (by first | exact Nat.le_refl _ | (simp only [World.size_alloc]; omega)) _)⟩ ?_
 intro W1 s1
 have HS1 := Lib.hid s1
 clear s1
 go_wp2_with (first | (refine wpList_load_row rfl 105 _ rfl (w.heap.size) rfl 105 #[.int .i64 a, .int .i64 b, .int .i64 c, .int .i64 d, .int .i64 x, .int .i64 y, .int .i64 k, .int .i64 l, .int .i64 m, .int .i64 n, .int .i64 u, .int .i64 v] (0, 0) _ HS2.out.1 Tryz.underlying105 rfl ?_ ?_; (kernel_rfl)) | (refine wpList_load_row rfl 105 _ rfl (w.heap.size) rfl 105 #[.int .i64 a, .int .i64 b, .int .i64 c, .int .i64 d, .int .i64 x, .int .i64 y, .int .i64 k, .int .i64 l, .int .i64 m, .int .i64 n, .int .i64 u, .int .i64 v] (0, 0) _ HS1.out.1 Tryz.underlying105 rfl ?_ ?_; (kernel_rfl)) | (go_at_call 115; refine (HC.out _).mono ?_; rintro e w2 ⟨rfl, hb_w2⟩; have HS2 : Hid (Row w2 (w.heap.size) 105 [.int .i64 a, .int .i64 b, .int .i64 c, .int .i64 d, .int .i64 x, .int .i64 y, .int .i64 k, .int .i64 l, .int .i64 m, .int .i64 n, .int .i64 u, .int .i64 v] ∧ Below w.heap.size w w2) := ⟨(HS1.out.1).old hb_w2, (HS1.out.2).trans (hb_w2.mono (HS1.out.2).size)⟩; clear hb_w2) | (go_at_call 116; refine (HK.out _).mono ?_; rintro e w3 ⟨rfl, hb_w3⟩; have HS3 : Hid (Row w3 (w.heap.size) 105 [.int .i64 a, .int .i64 b, .int .i64 c, .int .i64 d, .int .i64 x, .int .i64 y, .int .i64 k, .int .i64 l, .int .i64 m, .int .i64 n, .int .i64 u, .int .i64 v] ∧ Below w.heap.size w w3) := ⟨(HS2.out.1).old hb_w3, (HS2.out.2).trans (hb_w3.mono (HS2.out.2).size)⟩; clear hb_w3))
 go_ret2
 exact ⟨rfl, HS3.out.2⟩
theorem results_ttt {P : Program} {fn : Func} {t u v : Tmp} (h : fn.results = #[.tmp t, .tmp u, .tmp v]) (tmps : Array Value) (w : World) : (results fn tmps).run P w = .ok (.tuple #[tmps.getD t undef, tmps.getD u undef, tmps.getD v undef]) w := by
 simp [results, h]
set_option maxRecDepth 100000 in
set_option maxHeartbeats 1000000 in
theorem toldT_bad (rs rf rl ra rb a b c d x y E : Int) (w : World) (hE : E = firstI [recE rs rf rl ra rb, sigE a b c d x y]) (h0 : E ≠ 0) : Calls Tryz.prog 13 #[.agg #[.int .i64 rs, .int .i64 rf, .int .i64 rl, .int .i64 ra, .int .i64 rb], .agg #[.int .i64 a, .int .i64 b, .int .i64 c, .int .i64 d, .int .i64 x, .int .i64 y]] w fun e w' => e = .returned (.tuple #[.int .i64 0, .string ⟨#[]⟩, .int .i64 E]) ∧ Below w.heap.size w w' := by
 have HC1 : Hid (∀ W, Calls Tryz.prog 12 #[.agg #[.int .i64 rs, .int .i64 rf, .int .i64 rl, .int .i64 ra, .int .i64 rb]] W fun e w' => e = .returned (.int .i64 (recE rs rf rl ra rb)) ∧ Below W.heap.size W w') := fun W => checkReceiver_any rs rf rl ra rb W
 have HC2 : Hid (∀ W, Calls Tryz.prog 64 #[.agg #[.int .i64 a, .int .i64 b, .int .i64 c, .int .i64 d, .int .i64 x, .int .i64 y]] W fun e w' => e = .returned (.int .i64 (sigE a b c d x y)) ∧ Below W.heap.size W w') := fun W => checkSignal_any a b c d x y W
 obtain ⟨E1, hE1⟩ : ∃ E1, E1 = recE rs rf rl ra rb := ⟨_, rfl⟩
 obtain ⟨E2, hE2⟩ : ∃ E2, E2 = sigE a b c d x y := ⟨_, rfl⟩
 rw [← hE1] at HC1 hE
 rw [← hE2] at HC2 hE
 have HE := Lib.hid hE
 have hne : (E == 0) = false := by simpa using h0
 have hne2 : (E != 0) = true := by simpa using h0
 clear hE hE1 hE2 h0
 go_enter Tryz.func13, Tryz.ntmps13
 go_upto_region 1 with fail
 refine genT (fun V => Row V (w.heap.size) 33 [.int .i64 rs, .int .i64 rf, .int .i64 rl, .int .i64 ra, .int .i64 rb] ∧ Row V (w.heap.size + 1) 39 [.int .i64 a, .int .i64 b, .int .i64 c, .int .i64 d, .int .i64 x, .int .i64 y] ∧ Below w.heap.size w V) ⟨(Row.alloc (rowAt _ _ (by first | rfl | simp only [World.size_alloc])) _), (rowAt _ _ (by first | rfl | simp only [World.size_alloc])), (((Below.refl _ _).alloc (by first | exact Nat.le_refl _ | (simp only [World.size_alloc]; omega)) _).alloc (by first | exact Nat.le_refl _ | (simp only [World.size_alloc]; omega)) _)⟩ ?_
 intro W1 s1
 have HS1 := Lib.hid s1
 clear s1
 refine wp_region_held_drew (S := fun V => Row V (w.heap.size) 33 [.int .i64 rs, .int .i64 rf, .int .i64 rl, .int .i64 ra, .int .i64 rb] ∧ Row V (w.heap.size + 1) 39 [.int .i64 a, .int .i64 b, .int .i64 c, .int .i64 d, .int .i64 x, .int .i64 y] ∧ Below w.heap.size w V) (by kernel_rfl) ?_ (fun hHeld => ?_)
 · exact ⟨(HS1.out.1).drew, (HS1.out.2.1).drew, (HS1.out.2.2).drew⟩
 refine tk 0 10 (.agg #[.int .i64 rs, .int .i64 rf, .int .i64 rl, .int .i64 ra, .int .i64 rb]) rfl (by kernel_rfl) (fun _ _ _ h => h) (by kernel_rfl) (fun V hV => ex_rowT 33 _ rfl (w.heap.size) rfl 33 [.int .i64 rs, .int .i64 rf, .int .i64 rl, .int .i64 ra, .int .i64 rb] _ Tryz.underlying33 rfl (by kernel_rfl) (hV.1)) hHeld ?_
 try simp only [zz]
 refine tk 2 12 (.agg #[.int .i64 a, .int .i64 b, .int .i64 c, .int .i64 d, .int .i64 x, .int .i64 y]) rfl (by kernel_rfl) (fun _ _ _ h => h) (by kernel_rfl) (fun V hV => ex_rowT 39 _ rfl (w.heap.size + 1) rfl 39 [.int .i64 a, .int .i64 b, .int .i64 c, .int .i64 d, .int .i64 x, .int .i64 y] _ Tryz.underlying39 rfl (by kernel_rfl) (hV.2.1)) hHeld ?_
 try simp only [zz]
 refine st1 1 (by kernel_rfl) rfl (fun K hK => ?_)
 go_simp
 go_at_call 12
 refine (HC1.out _).mono ?_
 rintro e v1 ⟨rfl, hb1⟩
 try go_simp
 refine hK.out _ _ ?_ (fun hHeld => ?_)
 · exact ⟨(hHeld.1).old hb1, (hHeld.2.1).old hb1, (hHeld.2.2).trans ((hb1).mono (hHeld.2.2).size)⟩
 clear hK K
 try simp only [zz]
 refine st1 3 (by kernel_rfl) rfl (fun K hK => ?_)
 go_simp
 go_at_call 64
 refine (HC2.out _).mono ?_
 rintro e v3 ⟨rfl, hb3⟩
 try go_simp
 refine hK.out _ _ ?_ (fun hHeld => ?_)
 · exact ⟨(hHeld.1).old hb3, (hHeld.2.1).old hb3, (hHeld.2.2).trans ((hb3).mono (hHeld.2.2).size)⟩
 clear hK K
 try simp only [zz]
 refine st1 4 (by kernel_rfl) rfl (fun K hK => ?_)
 go_simp
 refine hK.out _ _ ?_ (fun hHeld => ?_)
 · exact ⟨(hHeld.1).old ((Below.refl _ _).alloc (Nat.le_refl _) _), (hHeld.2.1).old ((Below.refl _ _).alloc (Nat.le_refl _) _), (hHeld.2.2).trans ((((Below.refl _ _).alloc (Nat.le_refl _) _)).mono (hHeld.2.2).size)⟩
 clear hK K
 try simp only [zz]
 refine st1 5 (by kernel_rfl) rfl (fun K hK => ?_)
 go_simp
 go_at_call 61
 refine (firstV_any _ _ _ [E1, E2] _ ?_ rfl (by simp)).mono ?_
 · exact Rd.newT (t := 31)
 rintro e v13 ⟨rfl, rfl⟩
 try go_simp
 refine hK.out _ _ ?_ (fun hHeld => ?_)
 · exact hHeld
 clear hK K
 try simp only [zz]
 refine tk 6 7 ?_ rfl (by kernel_rfl) (fun _ _ _ h => h) (by kernel_rfl) ?_ hHeld ?_
 rotate_left
 · intro w1 hSw; (try dsimp only at hSw); go_simp <;> with_reducible rfl
 try simp only [zz]
 refine wpAnyH_done (by kernel_rfl) ?_ _
 rw [← HE.out]
 clear HC1 HC2 HE
 go_wp2_with fail
 refine bodyPost_ret (results_ttt rfl _ _) rfl ?_
 exact ⟨rfl, hHeld.2.2⟩
set_option maxRecDepth 100000 in
set_option maxHeartbeats 1000000 in
theorem toldT_ok (rs rf rl ra rb a b c d x y E : Int) (w : World) (hE : E = firstI [recE rs rf rl ra rb, sigE a b c d x y]) (h0 : E = 0) (tn : Int) (fl : ByteArray) (HM : ∀ W, Calls Tryz.prog 65 #[.agg #[.int .i64 rs, .int .i64 rf, .int .i64 rl, .int .i64 ra, .int .i64 rb], .agg #[.int .i64 a, .int .i64 b, .int .i64 c, .int .i64 d, .int .i64 x, .int .i64 y]] W fun e w' => e = .returned (.tuple #[.int .i64 tn, .string fl]) ∧ Below W.heap.size W w') : Calls Tryz.prog 13 #[.agg #[.int .i64 rs, .int .i64 rf, .int .i64 rl, .int .i64 ra, .int .i64 rb], .agg #[.int .i64 a, .int .i64 b, .int .i64 c, .int .i64 d, .int .i64 x, .int .i64 y]] w fun e w' => e = .returned (.tuple #[.int .i64 tn, .string fl, .int .i64 0]) ∧ Below w.heap.size w w' := by
 have HC1 : Hid (∀ W, Calls Tryz.prog 12 #[.agg #[.int .i64 rs, .int .i64 rf, .int .i64 rl, .int .i64 ra, .int .i64 rb]] W fun e w' => e = .returned (.int .i64 (recE rs rf rl ra rb)) ∧ Below W.heap.size W w') := fun W => checkReceiver_any rs rf rl ra rb W
 have HC2 : Hid (∀ W, Calls Tryz.prog 64 #[.agg #[.int .i64 a, .int .i64 b, .int .i64 c, .int .i64 d, .int .i64 x, .int .i64 y]] W fun e w' => e = .returned (.int .i64 (sigE a b c d x y)) ∧ Below W.heap.size W w') := fun W => checkSignal_any a b c d x y W
 have HM := Lib.hid HM
 obtain ⟨E1, hE1⟩ : ∃ E1, E1 = recE rs rf rl ra rb := ⟨_, rfl⟩
 obtain ⟨E2, hE2⟩ : ∃ E2, E2 = sigE a b c d x y := ⟨_, rfl⟩
 rw [← hE1] at HC1 hE
 rw [← hE2] at HC2 hE
 have HE := Lib.hid hE
 have hne : (E == 0) = true := by simpa using h0
 have hne2 : (E != 0) = false := by simpa using h0
 clear hE hE1 hE2 h0
 go_enter Tryz.func13, Tryz.ntmps13
 go_upto_region 1 with fail
 refine genT (fun V => Row V (w.heap.size) 33 [.int .i64 rs, .int .i64 rf, .int .i64 rl, .int .i64 ra, .int .i64 rb] ∧ Row V (w.heap.size + 1) 39 [.int .i64 a, .int .i64 b, .int .i64 c, .int .i64 d, .int .i64 x, .int .i64 y] ∧ Below w.heap.size w V) ⟨(Row.alloc (rowAt _ _ (by first | rfl | simp only [World.size_alloc])) _), (rowAt _ _ (by first | rfl | simp only [World.size_alloc])), (((Below.refl _ _).alloc (by first | exact Nat.le_refl _ | (simp only [World.size_alloc]; omega)) _).alloc (by first | exact Nat.le_refl _ | (simp only [World.size_alloc]; omega)) _)⟩ ?_
 intro W1 s1
 have HS1 := Lib.hid s1
 clear s1
 refine wp_region_held_drew (S := fun V => Row V (w.heap.size) 33 [.int .i64 rs, .int .i64 rf, .int .i64 rl, .int .i64 ra, .int .i64 rb] ∧ Row V (w.heap.size + 1) 39 [.int .i64 a, .int .i64 b, .int .i64 c, .int .i64 d, .int .i64 x, .int .i64 y] ∧ Below w.heap.size w V) (by kernel_rfl) ?_ (fun hHeld => ?_)
 · exact ⟨(HS1.out.1).drew, (HS1.out.2.1).drew, (HS1.out.2.2).drew⟩
 refine tk 0 10 (.agg #[.int .i64 rs, .int .i64 rf, .int .i64 rl, .int .i64 ra, .int .i64 rb]) rfl (by kernel_rfl) (fun _ _ _ h => h) (by kernel_rfl) (fun V hV => ex_rowT 33 _ rfl (w.heap.size) rfl 33 [.int .i64 rs, .int .i64 rf, .int .i64 rl, .int .i64 ra, .int .i64 rb] _ Tryz.underlying33 rfl (by kernel_rfl) (hV.1)) hHeld ?_
 try simp only [zz]
 refine tk 2 12 (.agg #[.int .i64 a, .int .i64 b, .int .i64 c, .int .i64 d, .int .i64 x, .int .i64 y]) rfl (by kernel_rfl) (fun _ _ _ h => h) (by kernel_rfl) (fun V hV => ex_rowT 39 _ rfl (w.heap.size + 1) rfl 39 [.int .i64 a, .int .i64 b, .int .i64 c, .int .i64 d, .int .i64 x, .int .i64 y] _ Tryz.underlying39 rfl (by kernel_rfl) (hV.2.1)) hHeld ?_
 try simp only [zz]
 refine st1 1 (by kernel_rfl) rfl (fun K hK => ?_)
 go_simp
 go_at_call 12
 refine (HC1.out _).mono ?_
 rintro e v1 ⟨rfl, hb1⟩
 try go_simp
 refine hK.out _ _ ?_ (fun hHeld => ?_)
 · exact ⟨(hHeld.1).old hb1, (hHeld.2.1).old hb1, (hHeld.2.2).trans ((hb1).mono (hHeld.2.2).size)⟩
 clear hK K
 try simp only [zz]
 refine st1 3 (by kernel_rfl) rfl (fun K hK => ?_)
 go_simp
 go_at_call 64
 refine (HC2.out _).mono ?_
 rintro e v3 ⟨rfl, hb3⟩
 try go_simp
 refine hK.out _ _ ?_ (fun hHeld => ?_)
 · exact ⟨(hHeld.1).old hb3, (hHeld.2.1).old hb3, (hHeld.2.2).trans ((hb3).mono (hHeld.2.2).size)⟩
 clear hK K
 try simp only [zz]
 refine st1 4 (by kernel_rfl) rfl (fun K hK => ?_)
 go_simp
 refine hK.out _ _ ?_ (fun hHeld => ?_)
 · exact ⟨(hHeld.1).old ((Below.refl _ _).alloc (Nat.le_refl _) _), (hHeld.2.1).old ((Below.refl _ _).alloc (Nat.le_refl _) _), (hHeld.2.2).trans ((((Below.refl _ _).alloc (Nat.le_refl _) _)).mono (hHeld.2.2).size)⟩
 clear hK K
 try simp only [zz]
 refine st1 5 (by kernel_rfl) rfl (fun K hK => ?_)
 go_simp
 go_at_call 61
 refine (firstV_any _ _ _ [E1, E2] _ ?_ rfl (by simp)).mono ?_
 · exact Rd.newT (t := 31)
 rintro e v13 ⟨rfl, rfl⟩
 try go_simp
 refine hK.out _ _ ?_ (fun hHeld => ?_)
 · exact hHeld
 clear hK K
 try simp only [zz]
 refine tk 6 7 ?_ rfl (by kernel_rfl) (fun _ _ _ h => h) (by kernel_rfl) ?_ hHeld ?_
 rotate_left
 · intro w1 hSw; (try dsimp only at hSw); go_simp <;> with_reducible rfl
 try simp only [zz]
 refine wpAnyH_done (by kernel_rfl) ?_ _
 rw [← HE.out]
 clear HC1 HC2 HE
 have HS4 := Lib.hid hHeld
 clear hHeld
 go_wp2_with (first
  | (refine wpList_load_row rfl 33 _ rfl (w.heap.size) rfl 33 #[.int .i64 rs, .int .i64 rf, .int .i64 rl, .int .i64 ra, .int .i64 rb] (0, 0) _ HS4.out.1 Tryz.underlying33 rfl ?_ ?_; (kernel_rfl))
  | (refine wpList_load_row rfl 39 _ rfl (w.heap.size + 1) rfl 39 #[.int .i64 a, .int .i64 b, .int .i64 c, .int .i64 d, .int .i64 x, .int .i64 y] (0, 0) _ HS4.out.2.1 Tryz.underlying39 rfl ?_ ?_; (kernel_rfl))
  | (go_at_call 65; refine (HM.out _).mono ?_; rintro e w5 ⟨rfl, hb_w5⟩; have HS5 : Hid (Row w5 (w.heap.size) 33 [.int .i64 rs, .int .i64 rf, .int .i64 rl, .int .i64 ra, .int .i64 rb] ∧ Row w5 (w.heap.size + 1) 39 [.int .i64 a, .int .i64 b, .int .i64 c, .int .i64 d, .int .i64 x, .int .i64 y] ∧ Below w.heap.size w w5) := ⟨(HS4.out.1).old hb_w5, (HS4.out.2.1).old hb_w5, (HS4.out.2.2).trans (hb_w5.mono (HS4.out.2.2).size)⟩; clear hb_w5))
 refine bodyPost_ret (results_ttt rfl _ _) rfl ?_
 exact ⟨rfl, HS5.out.2.2⟩
def mnI (a b : Int) : Int := if b < a then b else a
def mxI (a b : Int) : Int := if a < b then b else a
def minL (zs : List Int) : Int := (zs.drop 1).foldl mnI (zs.headD 0)
def maxL (zs : List Int) : Int := (zs.drop 1).foldl mxI (zs.headD 0)
theorem fold_snoc (f : Int → Int → Int) (zs : List Int) (k : Nat) (hk : k < zs.length) (h0 : 0 < k) : f (((zs.take k).drop 1).foldl f ((zs.take k).headD 0)) zs[k] = ((zs.take (k + 1)).drop 1).foldl f ((zs.take (k + 1)).headD 0) := by
 match zs, k, h0 with
 | z :: zs, k + 1, _ =>
   have hk' : k < zs.length := by simpa using hk
   show f ((zs.take k).foldl f z) zs[k] = (zs.take (k + 1)).foldl f z
   rw [List.take_succ_eq_append_getElem hk', List.foldl_append]; rfl
 | [], _, _ => simp at hk
set_option maxRecDepth 100000 in
set_option maxHeartbeats 1000000 in
theorem minS_any (A : Option Addr) (n c : Nat) (zs : List Int) (w : World) (h : Rd w A (ints zs)) (hn : n = zs.length) (h0 : 0 < zs.length) (hm : zs.length ≤ 1000000000) :
 Calls Tryz.prog 155 #[.slice A n c] w fun e w' => e = .returned (.int .i64 (minL zs)) ∧ w = w' := by
 subst hn
 obtain ⟨b0, off0, e0, hc0⟩ := Rd.int h h0
 have hz : decide ((zs.length : Int) < 1) = false := decide_eq_false (by omega)
 have hf : Hid (zs[0] = ((zs.take 1).drop 1).foldl mnI ((zs.take 1).headD 0)) := by
  match zs, h0 with
  | z :: zs, _ => exact rfl
 subst e0
 rw [Nat.add_zero] at hc0
 go_enter Tryz.func155, Tryz.ntmps155
 go_wp2
 go_loop [3, 4] (fun m i => ∃ k : Nat, 1 ≤ k ∧ k ≤ zs.length ∧ i = .int .i64 k ∧ ∃ x : Int, m = .int .i64 x ∧ Hid (x = ((zs.take k).drop 1).foldl mnI ((zs.take k).headD 0))) (fun _ i => zs.length - (intOf i).toNat)
 case atStart => exact ⟨1, Nat.le_refl _, h0, rfl, _, rfl, hf⟩
 case round =>
  obtain ⟨k, hk0, hk, rfl, x, rfl, H⟩ := hrel
  by_cases hlt : k < zs.length
  · obtain ⟨b, off, e, hc⟩ := Rd.int h hlt
    cases e
    have hd := Lib.hid (fold_snoc mnI zs k hlt (by omega))
    obtain ⟨y, hy⟩ : ∃ y, y = zs[k] := ⟨_, rfl⟩
    rw [← hy] at hc hd
    have HY := Lib.hid hy
    clear hy hf hc0
    go_wp2
    all_goals
     go_round
     case rel => exact ⟨k + 1, by omega, by omega, by go_num, _, rfl, by show _ = _; rw [← hd.out, ← H.out]; unfold mnI; first | rfl | omega | (split <;> omega)⟩
     case measure => simp [intOf]; omega
  · obtain rfl : k = zs.length := by omega
    go_wp2
    go_ret
    exact ⟨ret_int (by rw [H.out, List.take_length]; rfl), rfl⟩
set_option maxRecDepth 100000 in
set_option maxHeartbeats 1000000 in
theorem maxS_any (A : Option Addr) (n c : Nat) (zs : List Int) (w : World) (h : Rd w A (ints zs)) (hn : n = zs.length) (h0 : 0 < zs.length) (hm : zs.length ≤ 1000000000) :
 Calls Tryz.prog 156 #[.slice A n c] w fun e w' => e = .returned (.int .i64 (maxL zs)) ∧ w = w' := by
 subst hn
 obtain ⟨b0, off0, e0, hc0⟩ := Rd.int h h0
 have hz : decide ((zs.length : Int) < 1) = false := decide_eq_false (by omega)
 have hf : Hid (zs[0] = ((zs.take 1).drop 1).foldl mxI ((zs.take 1).headD 0)) := by
  match zs, h0 with
  | z :: zs, _ => exact rfl
 subst e0
 rw [Nat.add_zero] at hc0
 go_enter Tryz.func156, Tryz.ntmps156
 go_wp2
 go_loop [3, 4] (fun m i => ∃ k : Nat, 1 ≤ k ∧ k ≤ zs.length ∧ i = .int .i64 k ∧ ∃ x : Int, m = .int .i64 x ∧ Hid (x = ((zs.take k).drop 1).foldl mxI ((zs.take k).headD 0))) (fun _ i => zs.length - (intOf i).toNat)
 case atStart => exact ⟨1, Nat.le_refl _, h0, rfl, _, rfl, hf⟩
 case round =>
  obtain ⟨k, hk0, hk, rfl, x, rfl, H⟩ := hrel
  by_cases hlt : k < zs.length
  · obtain ⟨b, off, e, hc⟩ := Rd.int h hlt
    cases e
    have hd := Lib.hid (fold_snoc mxI zs k hlt (by omega))
    obtain ⟨y, hy⟩ : ∃ y, y = zs[k] := ⟨_, rfl⟩
    rw [← hy] at hc hd
    have HY := Lib.hid hy
    clear hy hf hc0
    go_wp2
    all_goals
     go_round
     case rel => exact ⟨k + 1, by omega, by omega, by go_num, _, rfl, by show _ = _; rw [← hd.out, ← H.out]; unfold mxI; first | rfl | omega | (split <;> omega)⟩
     case measure => simp [intOf]; omega
  · obtain rfl : k = zs.length := by omega
    go_wp2
    go_ret
    exact ⟨ret_int (by rw [H.out, List.take_length]; rfl), rfl⟩
set_option maxRecDepth 100000 in
set_option maxHeartbeats 1000000 in
theorem reach_any (A : Option Addr) (n c : Nat) (zs : List Int) (w : World) (h : Rd w A (ints zs)) (hn : n = zs.length) (h0 : 0 < zs.length) (hm : zs.length ≤ 1000000000) :
 Calls Tryz.prog 112 #[.slice A n c] w fun e w' => e = .returned (.agg #[.int .i64 (minL zs), .int .i64 (maxL zs)]) ∧ Below w.heap.size w w' := by
 have H1 : Hid (∀ W, Rd W A (ints zs) → Calls Tryz.prog 155 #[.slice A n c] W fun e w' => e = .returned (.int .i64 (minL zs)) ∧ W = w') := fun W hW => minS_any A n c zs W hW hn h0 hm
 have H2 : Hid (∀ W, Rd W A (ints zs) → Calls Tryz.prog 156 #[.slice A n c] W fun e w' => e = .returned (.int .i64 (maxL zs)) ∧ W = w') := fun W hW => maxS_any A n c zs W hW hn h0 hm
 have hb : Below w.heap.size w (w.alloc (.cells #[.int .i64 0, .int .i64 0] 23)) := (Below.refl _ _).alloc (Nat.le_refl _) _
 have HR := Lib.hid (h.below hb)
 have HB := Lib.hid hb
 have HN : Hid (Row (w.alloc (.cells #[.int .i64 0, .int .i64 0] 23)) w.heap.size 23 [.int .i64 0, .int .i64 0]) := Row.new w 23 [.int .i64 0, .int .i64 0]
 obtain ⟨p, hp⟩ : ∃ p, p = minL zs := ⟨_, rfl⟩
 obtain ⟨q, hq⟩ : ∃ q, q = maxL zs := ⟨_, rfl⟩
 rw [← hp] at H1 ⊢; rw [← hq] at H2 ⊢
 clear h hn h0 hm hb hp hq
 go_enter Tryz.func112, Tryz.ntmps112
 go_wp2_with (first
  | (go_at_call 155; refine (H1.out _ HR.out).mono ?_; rintro e w2 ⟨rfl, rfl⟩)
  | (go_at_call 156; refine (H2.out _ HR.out).mono ?_; rintro e w2 ⟨rfl, rfl⟩)
  | (refine wpList_store_row rfl 23 _ _ rfl (w.heap.size) #[.int .i64 p, .int .i64 q] rfl rfl 23 _ HN.out ?_ ?_ ?_ ?_; (kernel_rfl); (rfl); (simp [Value.oneCell'])))
 refine bodyPost_ret (results_rowA rfl _ _ (w.heap.size) 23 #[.int .i64 p, .int .i64 q] (0, 0) _ rfl (HN.out.setRow [.int .i64 p, .int .i64 q]) Tryz.underlying23 rfl (by kernel_rfl)) rfl ⟨rfl, Below.setRow HB.out (Nat.le_refl _) _⟩
set_option maxRecDepth 100000 in
set_option maxHeartbeats 1000000 in
theorem lost_any (rs rf rl ra rb a b c d x y n Q t : Int) (w : World) (h1 : Gs a b) (h2 : Gs c d) (h3 : Gs x y) (hs : 1 ≤ rs ∧ rs ≤ 1000) (hf : 1 ≤ rf ∧ rf ≤ 1000) (hn : n = c * a + d * b - (x * a + y * b)) (hQ : Q = a * a + b * b) (bn : n.natAbs ≤ 1000000000) (bQ : 0 < Q ∧ Q ≤ 1000000000) (ht : 0 ≤ t ∧ t ≤ 1000) : Calls Tryz.prog 111 #[.agg #[.int .i64 rs, .int .i64 rf, .int .i64 rl, .int .i64 ra, .int .i64 rb], .agg #[.int .i64 a, .int .i64 b, .int .i64 c, .int .i64 d, .int .i64 x, .int .i64 y], .int .i64 t] w fun e w' => e = .returned (.int .i64 (shownI rs rf (n * (1000 - t)) (Q * 1000))) ∧ Below w.heap.size w w' := by
 obtain ⟨s, hs0⟩ : ∃ s, s = 1000 - t := ⟨_, rfl⟩
 have bs : 0 ≤ s ∧ s ≤ 1000 := by omega
 have b1 : (n * s).natAbs ≤ 1000000000 * 1000 := by rw [Int.natAbs_mul]; exact Nat.mul_le_mul bn (by omega)
 have e1 : IntKind.i64.wrap (1000 - t) = s := by rw [hs0]; exact IntWalk.i64_in _ (by omega)
 rw [← hs0]
 have HN : Hid (∀ W, Calls Tryz.prog 80 #[.agg #[.int .i64 a, .int .i64 b, .int .i64 c, .int .i64 d, .int .i64 x, .int .i64 y]] W fun e w' => e = .returned (.agg #[.int .i64 n, .int .i64 Q]) ∧ Below W.heap.size W w') := fun W => by rw [hn, hQ]; exact needle_any a b c d x y W h1 h2 h3
 have HT : Hid (∀ W, Calls Tryz.prog 137 #[.agg #[.int .i64 n, .int .i64 Q], .agg #[.int .i64 s, .int .i64 1000]] W fun e w' => e = .returned (.agg #[.int .i64 (n * s), .int .i64 (Q * 1000)]) ∧ Below W.heap.size W w') := fun W => timesQ_any n Q s 1000 W (by omega) (by omega)
 have HW : Hid (∀ W, Calls Tryz.prog 114 #[.agg #[.int .i64 rs, .int .i64 rf, .int .i64 rl, .int .i64 ra, .int .i64 rb], .agg #[.int .i64 (n * s), .int .i64 (Q * 1000)]] W fun e w' => e = .returned (.int .i64 (shownI rs rf (n * s) (Q * 1000))) ∧ Below W.heap.size W w') := fun W => shown_any rs rf rl ra rb (n * s) (Q * 1000) W hs hf (by omega) (by omega)
 obtain ⟨v, hv⟩ : ∃ v, v = shownI rs rf (n * s) (Q * 1000) := ⟨_, rfl⟩
 obtain ⟨N, hN⟩ : ∃ N, N = n * s := ⟨_, rfl⟩
 obtain ⟨D, hD⟩ : ∃ D, D = Q * 1000 := ⟨_, rfl⟩
 rw [← hv] at HW ⊢
 rw [← hN, ← hD] at HT HW
 clear h1 h2 h3 hs hf hn hQ bn bQ ht bs b1 hs0 hv hN hD
 go_enter Tryz.func111, Tryz.ntmps111
 go_upto_region 1 with fail
 refine genT (fun V => Row V (w.heap.size) 33 [.int .i64 rs, .int .i64 rf, .int .i64 rl, .int .i64 ra, .int .i64 rb] ∧ Row V (w.heap.size + 1) 39 [.int .i64 a, .int .i64 b, .int .i64 c, .int .i64 d, .int .i64 x, .int .i64 y] ∧ Below w.heap.size w V) ⟨(Row.alloc (rowAt _ _ (by first | rfl | simp only [World.size_alloc])) _), (rowAt _ _ (by first | rfl | simp only [World.size_alloc])), (((Below.refl _ _).alloc (by first | exact Nat.le_refl _ | (simp only [World.size_alloc]; omega)) _).alloc (by first | exact Nat.le_refl _ | (simp only [World.size_alloc]; omega)) _)⟩ ?_
 intro W1 s1
 have HS1 := Lib.hid s1
 clear s1
 refine wp_region_held_drew (S := fun V => Row V (w.heap.size) 33 [.int .i64 rs, .int .i64 rf, .int .i64 rl, .int .i64 ra, .int .i64 rb] ∧ Row V (w.heap.size + 1) 39 [.int .i64 a, .int .i64 b, .int .i64 c, .int .i64 d, .int .i64 x, .int .i64 y] ∧ Below w.heap.size w V) (by kernel_rfl) ?_ (fun hHeld => ?_)
 · exact ⟨(HS1.out.1).drew, (HS1.out.2.1).drew, (HS1.out.2.2).drew⟩
 refine tk 0 7 (.agg #[.int .i64 rs, .int .i64 rf, .int .i64 rl, .int .i64 ra, .int .i64 rb]) rfl (by kernel_rfl) (fun _ _ _ h => h) (by kernel_rfl) (fun V hV => ex_rowT 33 _ rfl (w.heap.size) rfl 33 [.int .i64 rs, .int .i64 rf, .int .i64 rl, .int .i64 ra, .int .i64 rb] _ Tryz.underlying33 rfl (by kernel_rfl) (hV.1)) hHeld ?_
 try simp only [zz]
 refine tk 1 8 (.agg #[.int .i64 a, .int .i64 b, .int .i64 c, .int .i64 d, .int .i64 x, .int .i64 y]) rfl (by kernel_rfl) (fun _ _ _ h => h) (by kernel_rfl) (fun V hV => ex_rowT 39 _ rfl (w.heap.size + 1) rfl 39 [.int .i64 a, .int .i64 b, .int .i64 c, .int .i64 d, .int .i64 x, .int .i64 y] _ Tryz.underlying39 rfl (by kernel_rfl) (hV.2.1)) hHeld ?_
 try simp only [zz]
 refine tk 3 10 ?_ rfl (by kernel_rfl) (fun _ _ _ h => h) (by kernel_rfl) ?_ hHeld ?_
 rotate_left
 · intro w1 hSw; (try dsimp only at hSw); go_simp <;> with_reducible rfl
 try simp only [zz]
 refine tk 4 11 ?_ rfl (by kernel_rfl) (fun _ _ _ h => h) (by kernel_rfl) ?_ hHeld ?_
 rotate_left
 · intro w1 hSw; (try dsimp only at hSw); go_simp <;> with_reducible rfl
 try simp only [zz]
 refine tk 5 12 ?_ rfl (by kernel_rfl) (fun _ _ _ h => h) (by kernel_rfl) ?_ hHeld ?_
 rotate_left
 · intro w1 hSw; (try dsimp only at hSw); go_simp <;> with_reducible rfl
 try simp only [zz]
 refine st1 2 (by kernel_rfl) rfl (fun K hK => ?_)
 go_simp
 go_at_call 80
 refine (HN.out _).mono ?_
 rintro e v2 ⟨rfl, hb2⟩
 try go_simp
 refine hK.out _ _ ?_ (fun hHeld => ?_)
 · exact ⟨(hHeld.1).old hb2, (hHeld.2.1).old hb2, (hHeld.2.2).trans ((hb2).mono (hHeld.2.2).size)⟩
 clear hK K
 try simp only [zz]
 refine st1 6 (by kernel_rfl) rfl (fun K hK => ?_)
 go_simp
 go_at_call 137
 refine (HT.out _).mono ?_
 rintro e v6 ⟨rfl, hb6⟩
 try go_simp
 refine hK.out _ _ ?_ (fun hHeld => ?_)
 · exact ⟨(hHeld.1).old hb6, (hHeld.2.1).old hb6, (hHeld.2.2).trans ((hb6).mono (hHeld.2.2).size)⟩
 clear hK K
 try simp only [zz]
 refine st1 7 (by kernel_rfl) rfl (fun K hK => ?_)
 go_simp
 go_at_call 114
 refine (HW.out _).mono ?_
 rintro e v7 ⟨rfl, hb7⟩
 try go_simp
 refine hK.out _ _ ?_ (fun hHeld => ?_)
 · exact ⟨(hHeld.1).old hb7, (hHeld.2.1).old hb7, (hHeld.2.2).trans ((hb7).mono (hHeld.2.2).size)⟩
 clear hK K
 try simp only [zz]
 refine tk 8 6 ?_ rfl (by kernel_rfl) (fun _ _ _ h => h) (by kernel_rfl) ?_ hHeld ?_
 rotate_left
 · intro w1 hSw; (try dsimp only at hSw); go_simp <;> with_reducible rfl
 try simp only [zz]
 refine wpAnyH_done (by kernel_rfl) ?_ _
 go_wp2_with fail
 go_ret
 exact ⟨rfl, hHeld.2.2⟩
set_option maxRecDepth 100000 in
set_option maxHeartbeats 1000000 in
theorem lostT_ok (rs rf rl ra rb a b c d x y lo hi E : Int) (w : World) (hE : E = firstI [recE rs rf rl ra rb, sigE a b c d x y, ivE lo hi 0 1000]) (h0 : E = 0) (p q : Int) (HP : ∀ W, Calls Tryz.prog 111 #[.agg #[.int .i64 rs, .int .i64 rf, .int .i64 rl, .int .i64 ra, .int .i64 rb], .agg #[.int .i64 a, .int .i64 b, .int .i64 c, .int .i64 d, .int .i64 x, .int .i64 y], .int .i64 lo] W fun e w' => e = .returned (.int .i64 p) ∧ Below W.heap.size W w') (HQ : ∀ W, Calls Tryz.prog 111 #[.agg #[.int .i64 rs, .int .i64 rf, .int .i64 rl, .int .i64 ra, .int .i64 rb], .agg #[.int .i64 a, .int .i64 b, .int .i64 c, .int .i64 d, .int .i64 x, .int .i64 y], .int .i64 hi] W fun e w' => e = .returned (.int .i64 q) ∧ Below W.heap.size W w') : Calls Tryz.prog 45 #[.agg #[.int .i64 rs, .int .i64 rf, .int .i64 rl, .int .i64 ra, .int .i64 rb], .agg #[.int .i64 a, .int .i64 b, .int .i64 c, .int .i64 d, .int .i64 x, .int .i64 y], .agg #[.int .i64 lo, .int .i64 hi]] w fun e w' => e = .returned (.tuple #[.agg #[.int .i64 (minL [p, q]), .int .i64 (maxL [p, q])], .int .i64 0]) ∧ Below w.heap.size w w' := by
 have HP := Lib.hid HP; have HQ := Lib.hid HQ
 have HC1 : Hid (∀ W, Calls Tryz.prog 12 #[.agg #[.int .i64 rs, .int .i64 rf, .int .i64 rl, .int .i64 ra, .int .i64 rb]] W fun e w' => e = .returned (.int .i64 (recE rs rf rl ra rb)) ∧ Below W.heap.size W w') := fun W => checkReceiver_any rs rf rl ra rb W
 have HC2 : Hid (∀ W, Calls Tryz.prog 64 #[.agg #[.int .i64 a, .int .i64 b, .int .i64 c, .int .i64 d, .int .i64 x, .int .i64 y]] W fun e w' => e = .returned (.int .i64 (sigE a b c d x y)) ∧ Below W.heap.size W w') := fun W => checkSignal_any a b c d x y W
 have HC3 : Hid (∀ W, Calls Tryz.prog 63 #[.agg #[.int .i64 lo, .int .i64 hi], .int .i64 0, .int .i64 1000] W fun e w' => e = .returned (.int .i64 (ivE lo hi 0 1000)) ∧ Below W.heap.size W w') := fun W => checkInterval_any lo hi 0 1000 W
 obtain ⟨E1, hE1⟩ : ∃ E1, E1 = recE rs rf rl ra rb := ⟨_, rfl⟩
 obtain ⟨E2, hE2⟩ : ∃ E2, E2 = sigE a b c d x y := ⟨_, rfl⟩
 obtain ⟨E3, hE3⟩ : ∃ E3, E3 = ivE lo hi 0 1000 := ⟨_, rfl⟩
 rw [← hE1] at HC1 hE
 rw [← hE2] at HC2 hE
 rw [← hE3] at HC3 hE
 have HE := Lib.hid hE
 have hne : (E == 0) = true := by simpa using h0
 have hne2 : (E != 0) = false := by simpa using h0
 clear hE hE1 hE2 hE3 h0
 obtain ⟨mn, hmn⟩ : ∃ mn, mn = minL [p, q] := ⟨_, rfl⟩
 obtain ⟨mx, hmx⟩ : ∃ mx, mx = maxL [p, q] := ⟨_, rfl⟩
 have HR : Hid (∀ W g, Row W g 3 [.int .i64 p, .int .i64 q] → Calls Tryz.prog 112 #[.slice (some ⟨g, 0, none⟩) 2 2] W fun e w' => e = .returned (.agg #[.int .i64 mn, .int .i64 mx]) ∧ Below W.heap.size W w') := fun W g h => by rw [hmn, hmx]; exact reach_any _ 2 2 [p, q] W (Rd.row h) rfl (by simp) (by simp)
 rw [← hmn, ← hmx]
 clear hmn hmx
 go_enter Tryz.func45, Tryz.ntmps45
 go_upto_region 1 with fail
 refine genT (fun V => Row V (w.heap.size) 33 [.int .i64 rs, .int .i64 rf, .int .i64 rl, .int .i64 ra, .int .i64 rb] ∧ Row V (w.heap.size + 1) 39 [.int .i64 a, .int .i64 b, .int .i64 c, .int .i64 d, .int .i64 x, .int .i64 y] ∧ Row V (w.heap.size + 1 + 1) 23 [.int .i64 lo, .int .i64 hi] ∧ Row V (w.heap.size + 1 + 1 + 1) 23 [.int .i64 0, .int .i64 0] ∧ Below w.heap.size w V) ⟨(Row.alloc (Row.alloc (Row.alloc (rowAt _ _ (by first | rfl | simp only [World.size_alloc])) _) _) _), (Row.alloc (Row.alloc (rowAt _ _ (by first | rfl | simp only [World.size_alloc])) _) _), (Row.alloc (rowAt _ _ (by first | rfl | simp only [World.size_alloc])) _), (rowAt _ _ (by first | rfl | simp only [World.size_alloc])), (((((Below.refl _ _).alloc (by first | exact Nat.le_refl _ | (simp only [World.size_alloc]; omega)) _).alloc (by first | exact Nat.le_refl _ | (simp only [World.size_alloc]; omega)) _).alloc (by first | exact Nat.le_refl _ | (simp only [World.size_alloc]; omega)) _).alloc (by first | exact Nat.le_refl _ | (simp only [World.size_alloc]; omega)) _)⟩ ?_
 intro W1 s1
 have HS1 : Hid (Row W1 (w.heap.size) 33 [.int .i64 rs, .int .i64 rf, .int .i64 rl, .int .i64 ra, .int .i64 rb] ∧ Row W1 (w.heap.size + 1) 39 [.int .i64 a, .int .i64 b, .int .i64 c, .int .i64 d, .int .i64 x, .int .i64 y] ∧ Row W1 (w.heap.size + 1 + 1) 23 [.int .i64 lo, .int .i64 hi] ∧ RowN W1 (w.heap.size + 1 + 1 + 1) 23 2 ∧ Below w.heap.size w W1) := ⟨s1.1, s1.2.1, s1.2.2.1, ⟨_, rfl, s1.2.2.2.1⟩, s1.2.2.2.2⟩
 clear s1
 refine wp_region_held_drew (S := fun V => Row V (w.heap.size) 33 [.int .i64 rs, .int .i64 rf, .int .i64 rl, .int .i64 ra, .int .i64 rb] ∧ Row V (w.heap.size + 1) 39 [.int .i64 a, .int .i64 b, .int .i64 c, .int .i64 d, .int .i64 x, .int .i64 y] ∧ Row V (w.heap.size + 1 + 1) 23 [.int .i64 lo, .int .i64 hi] ∧ RowN V (w.heap.size + 1 + 1 + 1) 23 2 ∧ Below w.heap.size w V) (by kernel_rfl) ?_ (fun hHeld => ?_)
 · exact ⟨(HS1.out.1).drew, (HS1.out.2.1).drew, (HS1.out.2.2.1).drew, (HS1.out.2.2.2.1).drew, (HS1.out.2.2.2.2).drew⟩
 refine tk 0 11 (.agg #[.int .i64 rs, .int .i64 rf, .int .i64 rl, .int .i64 ra, .int .i64 rb]) rfl (by kernel_rfl) (fun _ _ _ h => h) (by kernel_rfl) (fun V hV => ex_rowT 33 _ rfl (w.heap.size) rfl 33 [.int .i64 rs, .int .i64 rf, .int .i64 rl, .int .i64 ra, .int .i64 rb] _ Tryz.underlying33 rfl (by kernel_rfl) (hV.1)) hHeld ?_
 try simp only [zz]
 refine tk 2 13 (.agg #[.int .i64 a, .int .i64 b, .int .i64 c, .int .i64 d, .int .i64 x, .int .i64 y]) rfl (by kernel_rfl) (fun _ _ _ h => h) (by kernel_rfl) (fun V hV => ex_rowT 39 _ rfl (w.heap.size + 1) rfl 39 [.int .i64 a, .int .i64 b, .int .i64 c, .int .i64 d, .int .i64 x, .int .i64 y] _ Tryz.underlying39 rfl (by kernel_rfl) (hV.2.1)) hHeld ?_
 try simp only [zz]
 refine tk 4 15 (.agg #[.int .i64 lo, .int .i64 hi]) rfl (by kernel_rfl) (fun _ _ _ h => h) (by kernel_rfl) (fun V hV => ex_rowT 23 _ rfl (w.heap.size + 1 + 1) rfl 23 [.int .i64 lo, .int .i64 hi] _ Tryz.underlying23 rfl (by kernel_rfl) (hV.2.2.1)) hHeld ?_
 try simp only [zz]
 refine st1 1 (by kernel_rfl) rfl (fun K hK => ?_)
 go_simp
 go_at_call 12
 refine (HC1.out _).mono ?_
 rintro e v1 ⟨rfl, hb1⟩
 try go_simp
 refine hK.out _ _ ?_ (fun hHeld => ?_)
 · exact ⟨(hHeld.1).old hb1, (hHeld.2.1).old hb1, (hHeld.2.2.1).old hb1, (hHeld.2.2.2.1).old hb1, (hHeld.2.2.2.2).trans ((hb1).mono (hHeld.2.2.2.2).size)⟩
 clear hK K
 try simp only [zz]
 refine st1 3 (by kernel_rfl) rfl (fun K hK => ?_)
 go_simp
 go_at_call 64
 refine (HC2.out _).mono ?_
 rintro e v3 ⟨rfl, hb3⟩
 try go_simp
 refine hK.out _ _ ?_ (fun hHeld => ?_)
 · exact ⟨(hHeld.1).old hb3, (hHeld.2.1).old hb3, (hHeld.2.2.1).old hb3, (hHeld.2.2.2.1).old hb3, (hHeld.2.2.2.2).trans ((hb3).mono (hHeld.2.2.2.2).size)⟩
 clear hK K
 try simp only [zz]
 refine st1 5 (by kernel_rfl) rfl (fun K hK => ?_)
 go_simp
 go_at_call 63
 refine (HC3.out _).mono ?_
 rintro e v5 ⟨rfl, hb5⟩
 try go_simp
 refine hK.out _ _ ?_ (fun hHeld => ?_)
 · exact ⟨(hHeld.1).old hb5, (hHeld.2.1).old hb5, (hHeld.2.2.1).old hb5, (hHeld.2.2.2.1).old hb5, (hHeld.2.2.2.2).trans ((hb5).mono (hHeld.2.2.2.2).size)⟩
 clear hK K
 try simp only [zz]
 refine st1 6 (by kernel_rfl) rfl (fun K hK => ?_)
 go_simp
 refine hK.out _ _ ?_ (fun hHeld => ?_)
 · exact ⟨(hHeld.1).old ((Below.refl _ _).alloc (Nat.le_refl _) _), (hHeld.2.1).old ((Below.refl _ _).alloc (Nat.le_refl _) _), (hHeld.2.2.1).old ((Below.refl _ _).alloc (Nat.le_refl _) _), (hHeld.2.2.2.1).old ((Below.refl _ _).alloc (Nat.le_refl _) _), (hHeld.2.2.2.2).trans ((((Below.refl _ _).alloc (Nat.le_refl _) _)).mono (hHeld.2.2.2.2).size)⟩
 clear hK K
 try simp only [zz]
 refine st1 7 (by kernel_rfl) rfl (fun K hK => ?_)
 go_simp
 go_at_call 61
 refine (firstV_any _ _ _ [E1, E2, E3] _ ?_ rfl (by simp)).mono ?_
 · exact Rd.newT (t := 31)
 rintro e v13 ⟨rfl, rfl⟩
 try go_simp
 refine hK.out _ _ ?_ (fun hHeld => ?_)
 · exact hHeld
 clear hK K
 try simp only [zz]
 refine tk 8 8 ?_ rfl (by kernel_rfl) (fun _ _ _ h => h) (by kernel_rfl) ?_ hHeld ?_
 rotate_left
 · intro w1 hSw; (try dsimp only at hSw); go_simp <;> with_reducible rfl
 try simp only [zz]
 refine wpAnyH_done (by kernel_rfl) ?_ _
 rw [← HE.out]
 clear HC1 HC2 HC3 HE
 have HS4 := Lib.hid hHeld
 clear hHeld
 go_upto_region 4 with fail
 have HS5 : Hid _ := HS4.out
 clear HS4
 refine wp_region_held_drew (S := fun V => Row V (w.heap.size) 33 [.int .i64 rs, .int .i64 rf, .int .i64 rl, .int .i64 ra, .int .i64 rb] ∧ Row V (w.heap.size + 1) 39 [.int .i64 a, .int .i64 b, .int .i64 c, .int .i64 d, .int .i64 x, .int .i64 y] ∧ Row V (w.heap.size + 1 + 1) 23 [.int .i64 lo, .int .i64 hi] ∧ RowN V (w.heap.size + 1 + 1 + 1) 23 2 ∧ Below w.heap.size w V) (by kernel_rfl) ?_ (fun hHeld => ?_)
 · exact ⟨(HS5.out.1).drew, (HS5.out.2.1).drew, (HS5.out.2.2.1).drew, (HS5.out.2.2.2.1).drew, (HS5.out.2.2.2.2).drew⟩
 refine tk 0 23 (.agg #[.int .i64 rs, .int .i64 rf, .int .i64 rl, .int .i64 ra, .int .i64 rb]) rfl (by kernel_rfl) (fun _ _ _ h => h) (by kernel_rfl) (fun V hV => ex_rowT 33 _ rfl (w.heap.size) rfl 33 [.int .i64 rs, .int .i64 rf, .int .i64 rl, .int .i64 ra, .int .i64 rb] _ Tryz.underlying33 rfl (by kernel_rfl) (hV.1)) hHeld ?_
 try simp only [zz]
 refine tk 1 24 (.agg #[.int .i64 a, .int .i64 b, .int .i64 c, .int .i64 d, .int .i64 x, .int .i64 y]) rfl (by kernel_rfl) (fun _ _ _ h => h) (by kernel_rfl) (fun V hV => ex_rowT 39 _ rfl (w.heap.size + 1) rfl 39 [.int .i64 a, .int .i64 b, .int .i64 c, .int .i64 d, .int .i64 x, .int .i64 y] _ Tryz.underlying39 rfl (by kernel_rfl) (hV.2.1)) hHeld ?_
 try simp only [zz]
 refine tk 2 25 ?_ rfl (by kernel_rfl) (fun _ _ _ h => h) (by kernel_rfl) ?_ hHeld ?_
 rotate_left
 · intro w1 hSw; (try dsimp only at hSw); go_simp <;> with_reducible rfl
 try simp only [zz]
 refine tk 3 26 ?_ rfl (by kernel_rfl) (fun _ _ _ h => h) (by kernel_rfl) ?_ hHeld ?_
 rotate_left
 · intro w1 hSw; (try dsimp only at hSw); have cc := (hSw.2.2.1).cell 0; simp only [List.getElem?_cons_succ, List.getElem?_cons_zero] at cc; go_simp <;> with_reducible rfl
 try simp only [zz]
 refine tk 5 28 (.agg #[.int .i64 rs, .int .i64 rf, .int .i64 rl, .int .i64 ra, .int .i64 rb]) rfl (by kernel_rfl) (fun _ _ _ h => h) (by kernel_rfl) (fun V hV => ex_rowT 33 _ rfl (w.heap.size) rfl 33 [.int .i64 rs, .int .i64 rf, .int .i64 rl, .int .i64 ra, .int .i64 rb] _ Tryz.underlying33 rfl (by kernel_rfl) (hV.1)) hHeld ?_
 try simp only [zz]
 refine tk 6 29 (.agg #[.int .i64 a, .int .i64 b, .int .i64 c, .int .i64 d, .int .i64 x, .int .i64 y]) rfl (by kernel_rfl) (fun _ _ _ h => h) (by kernel_rfl) (fun V hV => ex_rowT 39 _ rfl (w.heap.size + 1) rfl 39 [.int .i64 a, .int .i64 b, .int .i64 c, .int .i64 d, .int .i64 x, .int .i64 y] _ Tryz.underlying39 rfl (by kernel_rfl) (hV.2.1)) hHeld ?_
 try simp only [zz]
 refine tk 7 30 ?_ rfl (by kernel_rfl) (fun _ _ _ h => h) (by kernel_rfl) ?_ hHeld ?_
 rotate_left
 · intro w1 hSw; (try dsimp only at hSw); go_simp <;> with_reducible rfl
 try simp only [zz]
 refine tk 8 31 ?_ rfl (by kernel_rfl) (fun _ _ _ h => h) (by kernel_rfl) ?_ hHeld ?_
 rotate_left
 · intro w1 hSw; (try dsimp only at hSw); have cc := (hSw.2.2.1).cell 1; simp only [List.getElem?_cons_succ, List.getElem?_cons_zero] at cc; go_simp <;> with_reducible rfl
 try simp only [zz]
 refine st1 4 (by kernel_rfl) rfl (fun K hK => ?_)
 go_simp
 go_at_call 111
 refine (HP.out _).mono ?_
 rintro e v4 ⟨rfl, hb4⟩
 try go_simp
 refine hK.out _ _ ?_ (fun hHeld => ?_)
 · exact ⟨(hHeld.1).old hb4, (hHeld.2.1).old hb4, (hHeld.2.2.1).old hb4, (hHeld.2.2.2.1).old hb4, (hHeld.2.2.2.2).trans ((hb4).mono (hHeld.2.2.2.2).size)⟩
 clear hK K
 try simp only [zz]
 refine st1 9 (by kernel_rfl) rfl (fun K hK => ?_)
 go_simp
 go_at_call 111
 refine (HQ.out _).mono ?_
 rintro e v9 ⟨rfl, hb9⟩
 try go_simp
 refine hK.out _ _ ?_ (fun hHeld => ?_)
 · exact ⟨(hHeld.1).old hb9, (hHeld.2.1).old hb9, (hHeld.2.2.1).old hb9, (hHeld.2.2.2.1).old hb9, (hHeld.2.2.2.2).trans ((hb9).mono (hHeld.2.2.2.2).size)⟩
 clear hK K
 try simp only [zz]
 refine tk 10 9 ?_ rfl (by kernel_rfl) (fun _ _ _ h => h) (by kernel_rfl) ?_ hHeld ?_
 rotate_left
 · intro w1 hSw; (try dsimp only at hSw); go_simp <;> with_reducible rfl
 try simp only [zz]
 refine tk 11 10 ?_ rfl (by kernel_rfl) (fun _ _ _ h => h) (by kernel_rfl) ?_ hHeld ?_
 rotate_left
 · intro w1 hSw; (try dsimp only at hSw); go_simp <;> with_reducible rfl
 try simp only [zz]
 refine wpAnyH_done (by kernel_rfl) ?_ _
 obtain ⟨vs, hvl, hvr⟩ := hHeld.2.2.2.1
 have HB := Lib.hid (hHeld.2.2.2.2)
 have HV := Lib.hid hvr
 clear hHeld hvr
 go_wp2_with (first
  | (go_at_call 112; refine (HR.out _ _ (Row.new _ _ _)).mono ?_; rintro e v3 ⟨rfl, hb3⟩; have HV3 := Lib.hid ((HV.out.alloc _).old hb3); have HB3 := Lib.hid ((HB.out.alloc HB.out.size _).trans (hb3.mono (HB.out.alloc HB.out.size _).size)); clear hb3)
  | (refine wpList_store_row rfl 23 _ _ rfl (w.heap.size + 1 + 1 + 1) #[.int .i64 mn, .int .i64 mx] rfl rfl 23 _ HV3.out ?_ ?_ ?_ ?_; (kernel_rfl); (exact hvl); (simp [Value.oneCell'])))
 refine bodyPost_ret (results_rt rfl _ _ (w.heap.size + 1 + 1 + 1) 23 #[.int .i64 mn, .int .i64 mx] (0, 0) _ rfl (HV3.out.setRow [.int .i64 mn, .int .i64 mx]) Tryz.underlying23 rfl (by kernel_rfl)) rfl ⟨rfl, Below.setRow HB3.out (by omega) _⟩
end Go.Proofs.YtaeebedchbkniaaGreatDoor
