import Derived.Test.YtcaekblnioidiaaGreatDoorM13
namespace Go.Proofs.YtcaekblnioidiaaGreatDoor
set_option linter.all false
open Go.RowKit Go.Fl
theorem ex_quotient {o : Oper} {a : Act} {w : World} {u v : Value} (x : Operand) (ho : o.op = .load 124 x) (g off : Nat) (hx : a.eval x = .pointer (some ⟨g, off, none⟩)) (c0 : w.cell? ⟨g, off, none⟩ = some u) (c1 : w.cell? ⟨g, off + 1, none⟩ = some v) :
 (execOp a.eval o).run Tryz.prog w = .ok (.value (.agg #[u, v])) w := by
 unfold execOp
 simp only [ho, hx]
 go_simp
set_option maxRecDepth 100000 in
set_option maxHeartbeats 1000000 in
theorem depthsT_bad (a b c d x y E : Int) (w : World) (hE : sigE a b c d x y = E) (h0 : E ≠ 0) : Calls Tryz.prog 10 #[.agg #[.int .i64 a, .int .i64 b, .int .i64 c, .int .i64 d, .int .i64 x, .int .i64 y]] w fun e w' => e = .returned (.tuple #[.agg #[.int .i64 0, .int .i64 0], .agg #[.int .i64 0, .int .i64 0], .int .i64 E]) ∧ Below w.heap.size w w' := by
 have HC : Hid (∀ W, Calls Tryz.prog 20 #[.agg #[.int .i64 a, .int .i64 b, .int .i64 c, .int .i64 d, .int .i64 x, .int .i64 y]] W fun e w' => e = .returned (.int .i64 E) ∧ Below W.heap.size W w') := fun W => by rw [← hE]; exact checkSignal_any a b c d x y W
 have hne : (E == 0) = false := by simpa using h0
 have hne2 : (E != 0) = true := by simpa using h0
 clear hE h0
 go_enter Tryz.func10, Tryz.ntmps10
 go_upto_region 1 with fail
 refine genT (fun V => Row V (w.heap.size) 32 [.int .i64 a, .int .i64 b, .int .i64 c, .int .i64 d, .int .i64 x, .int .i64 y] ∧ Row V (w.heap.size + 1) 28 [.int .i64 0, .int .i64 0] ∧ Row V (w.heap.size + 1 + 1) 28 [.int .i64 0, .int .i64 0] ∧ Below w.heap.size w V) ⟨(Row.alloc (Row.alloc (rowAt _ _ (by first | rfl | simp only [World.size_alloc])) _) _), (Row.alloc (rowAt _ _ (by first | rfl | simp only [World.size_alloc])) _), (rowAt _ _ (by first | rfl | simp only [World.size_alloc])), ((((Below.refl _ _).alloc (by first | exact Nat.le_refl _ | (simp only [World.size_alloc]; omega)) _).alloc (by first | exact Nat.le_refl _ | (simp only [World.size_alloc]; omega)) _).alloc (by first | exact Nat.le_refl _ | (simp only [World.size_alloc]; omega)) _)⟩ ?_
 intro W1 s1
 have HS1 := Lib.hid s1
 clear s1
 go_upto_region 2 with (first | (refine wpList_load_row rfl 32 _ rfl (w.heap.size) rfl 32 #[.int .i64 a, .int .i64 b, .int .i64 c, .int .i64 d, .int .i64 x, .int .i64 y] (0, 0) _ HS1.out.1 Tryz.underlying32 rfl ?_ ?_; (kernel_rfl)) | (go_at_call 20; refine (HC.out _).mono ?_; rintro e w2 ⟨rfl, hb_w2⟩; have HS2 : Hid (Row w2 (w.heap.size) 32 [.int .i64 a, .int .i64 b, .int .i64 c, .int .i64 d, .int .i64 x, .int .i64 y] ∧ Row w2 (w.heap.size + 1) 28 [.int .i64 0, .int .i64 0] ∧ Row w2 (w.heap.size + 1 + 1) 28 [.int .i64 0, .int .i64 0] ∧ Below w.heap.size w w2) := ⟨(HS1.out.1).old hb_w2, (HS1.out.2.1).old hb_w2, (HS1.out.2.2.1).old hb_w2, (HS1.out.2.2.2).trans (hb_w2.mono (HS1.out.2.2.2).size)⟩; clear hb_w2))
 go_wp2_with (first | (refine wpList_store_row rfl 28 _ _ rfl (w.heap.size + 1) #[.int .i64 0, .int .i64 0] rfl rfl 28 _ HS2.out.2.1 ?_ ?_ ?_ ?_; (kernel_rfl); (rfl); (simp [Value.oneCell'])) | (refine wpList_store_row rfl 28 _ _ rfl (w.heap.size + 1 + 1) #[.int .i64 0, .int .i64 0] rfl rfl 28 _ (HS2.out.2.2.1.farRow (by omega) _) ?_ ?_ ?_ ?_; (kernel_rfl); (rfl); (simp [Value.oneCell'])))
 refine bodyPost_ret (results_rrt rfl _ _ (w.heap.size + 1) (w.heap.size + 1 + 1) 28 28 #[.int .i64 0, .int .i64 0] #[.int .i64 0, .int .i64 0] (0, 0) (0, 0) _ _ rfl ((HS2.out.2.1.setRow [.int .i64 0, .int .i64 0]).farRow (by omega) _) rfl ((HS2.out.2.2.1.farRow (by omega) _).setRow [.int .i64 0, .int .i64 0]) Tryz.underlying28 rfl (by kernel_rfl) Tryz.underlying28 rfl (by kernel_rfl)) rfl ⟨rfl, Below.setRow (Below.setRow HS2.out.2.2.2 (by omega) _) (by omega) _⟩
set_option maxRecDepth 100000 in
set_option maxHeartbeats 1000000 in
theorem depthsT_ok (a b c d x y : Int) (w : World) (hE : sigE a b c d x y = 0) : Calls Tryz.prog 10 #[.agg #[.int .i64 a, .int .i64 b, .int .i64 c, .int .i64 d, .int .i64 x, .int .i64 y]] w fun e w' => e = .returned (.tuple #[.agg (lowV (c * a + d * b) (a * a + b * b)).toArray, .agg (lowV (x * a + y * b) (a * a + b * b)).toArray, .int .i64 0]) ∧ Below w.heap.size w w' := by
 have hg := sig_good hE
 have k1 := hg.g2.along hg.g1; have k2 := hg.g3.along hg.g1; have k3 := hg.pos
 obtain ⟨E, hE0⟩ : ∃ E : Int, E = 0 := ⟨_, rfl⟩
 rw [← hE0] at hE
 have HC : Hid (∀ W, Calls Tryz.prog 20 #[.agg #[.int .i64 a, .int .i64 b, .int .i64 c, .int .i64 d, .int .i64 x, .int .i64 y]] W fun e w' => e = .returned (.int .i64 E) ∧ Below W.heap.size W w') := fun W => by rw [← hE]; exact checkSignal_any a b c d x y W
 subst hE0
 have HD : Hid (∀ W, Calls Tryz.prog 69 #[.agg #[.int .i64 a, .int .i64 b, .int .i64 c, .int .i64 d, .int .i64 x, .int .i64 y]] W fun e w' => e = .returned (.agg #[.int .i64 (c * a + d * b), .int .i64 (a * a + b * b), .int .i64 (x * a + y * b), .int .i64 (a * a + b * b)]) ∧ Below W.heap.size W w') := fun W => depths_any a b c d x y W hg.g1 hg.g2 hg.g3
 obtain ⟨N, hN⟩ : ∃ N, N = c * a + d * b := ⟨_, rfl⟩
 obtain ⟨M, hM⟩ : ∃ M, M = x * a + y * b := ⟨_, rfl⟩
 obtain ⟨Q, hQ⟩ : ∃ Q, Q = a * a + b * b := ⟨_, rfl⟩
 have hbN : Bd N := by unfold Bd; omega
 have hbM : Bd M := by unfold Bd; omega
 rw [← hN, ← hM, ← hQ] at HD ⊢
 rw [← hQ] at k3
 obtain ⟨p, hp⟩ : ∃ p, p = N.tdiv (gcdI N Q) := ⟨_, rfl⟩
 obtain ⟨q, hq⟩ : ∃ q, q = Q / gcdI N Q := ⟨_, rfl⟩
 obtain ⟨r, hr⟩ : ∃ r, r = M.tdiv (gcdI M Q) := ⟨_, rfl⟩
 obtain ⟨s, hs⟩ : ∃ s, s = Q / gcdI M Q := ⟨_, rfl⟩
 have HQ : Hid (∀ W, Calls Tryz.prog 70 #[.agg #[.int .i64 N, .int .i64 Q]] W fun e w' => e = .returned (.agg #[.int .i64 p, .int .i64 q]) ∧ Below W.heap.size W w') := fun W => by rw [hp, hq]; exact ratioQ_any N Q W hbN k3
 have HR : Hid (∀ W, Calls Tryz.prog 70 #[.agg #[.int .i64 M, .int .i64 Q]] W fun e w' => e = .returned (.agg #[.int .i64 r, .int .i64 s]) ∧ Below W.heap.size W w') := fun W => by rw [hr, hs]; exact ratioQ_any M Q W hbM k3
 have hl1 : lowV N Q = [.int .i64 p, .int .i64 q] := by unfold lowV; rw [← hp, ← hq]
 have hl2 : lowV M Q = [.int .i64 r, .int .i64 s] := by unfold lowV; rw [← hr, ← hs]
 rw [hl1, hl2]
 clear hE hg k1 k2 k3 hN hM hQ hbN hbM hp hq hr hs hl1 hl2
 go_enter Tryz.func10, Tryz.ntmps10
 go_upto_region 1 with fail
 refine genT (fun V => Row V (w.heap.size) 32 [.int .i64 a, .int .i64 b, .int .i64 c, .int .i64 d, .int .i64 x, .int .i64 y] ∧ Row V (w.heap.size + 1) 28 [.int .i64 0, .int .i64 0] ∧ Row V (w.heap.size + 1 + 1) 28 [.int .i64 0, .int .i64 0] ∧ Below w.heap.size w V) ⟨(Row.alloc (Row.alloc (rowAt _ _ (by first | rfl | simp only [World.size_alloc])) _) _), (Row.alloc (rowAt _ _ (by first | rfl | simp only [World.size_alloc])) _), (rowAt _ _ (by first | rfl | simp only [World.size_alloc])), ((((Below.refl _ _).alloc (by first | exact Nat.le_refl _ | (simp only [World.size_alloc]; omega)) _).alloc (by first | exact Nat.le_refl _ | (simp only [World.size_alloc]; omega)) _).alloc (by first | exact Nat.le_refl _ | (simp only [World.size_alloc]; omega)) _)⟩ ?_
 intro W1 s1
 have HS1 := Lib.hid s1
 clear s1
 go_upto_region 5 with (first | (refine wpList_load_row rfl 32 _ rfl (w.heap.size) rfl 32 #[.int .i64 a, .int .i64 b, .int .i64 c, .int .i64 d, .int .i64 x, .int .i64 y] (0, 0) _ HS2.out.1 Tryz.underlying32 rfl ?_ ?_; (kernel_rfl)) | (refine wpList_load_row rfl 32 _ rfl (w.heap.size) rfl 32 #[.int .i64 a, .int .i64 b, .int .i64 c, .int .i64 d, .int .i64 x, .int .i64 y] (0, 0) _ HS1.out.1 Tryz.underlying32 rfl ?_ ?_; (kernel_rfl)) | (go_at_call 20; refine (HC.out _).mono ?_; rintro e w2 ⟨rfl, hb_w2⟩; have HS2 : Hid (Row w2 (w.heap.size) 32 [.int .i64 a, .int .i64 b, .int .i64 c, .int .i64 d, .int .i64 x, .int .i64 y] ∧ Row w2 (w.heap.size + 1) 28 [.int .i64 0, .int .i64 0] ∧ Row w2 (w.heap.size + 1 + 1) 28 [.int .i64 0, .int .i64 0] ∧ Below w.heap.size w w2) := ⟨(HS1.out.1).old hb_w2, (HS1.out.2.1).old hb_w2, (HS1.out.2.2.1).old hb_w2, (HS1.out.2.2.2).trans (hb_w2.mono (HS1.out.2.2.2).size)⟩; clear hb_w2) | (go_at_call 69; refine (HD.out _).mono ?_; rintro e w3 ⟨rfl, hb_w3⟩; have HS3 : Hid (Row w3 (w.heap.size) 32 [.int .i64 a, .int .i64 b, .int .i64 c, .int .i64 d, .int .i64 x, .int .i64 y] ∧ Row w3 (w.heap.size + 1) 28 [.int .i64 0, .int .i64 0] ∧ Row w3 (w.heap.size + 1 + 1) 28 [.int .i64 0, .int .i64 0] ∧ Below w.heap.size w w3) := ⟨(HS2.out.1).old hb_w3, (HS2.out.2.1).old hb_w3, (HS2.out.2.2.1).old hb_w3, (HS2.out.2.2.2).trans (hb_w3.mono (HS2.out.2.2.2).size)⟩; clear hb_w3) | (refine wpList_store_row rfl 125 _ _ rfl (w3.heap.size) #[.int .i64 N, .int .i64 Q, .int .i64 M, .int .i64 Q] rfl rfl 125 _ (Row.new w3 125 [.int .i64 0, .int .i64 0, .int .i64 0, .int .i64 0]) ?_ ?_ ?_ ?_; (kernel_rfl); (rfl); (simp [Value.oneCell'])))
 have hz : w.heap.size + 1 + 1 < w3.heap.size := HS3.out.2.2.1.lt
 have hbn : Below w3.heap.size w3 ((w3.alloc (.cells #[.int .i64 0, .int .i64 0, .int .i64 0, .int .i64 0] 125)).setRow w3.heap.size #[.int .i64 N, .int .i64 Q, .int .i64 M, .int .i64 Q]) := Below.setRow ((Below.refl _ _).alloc (Nat.le_refl _) _) (Nat.le_refl _) _
 refine genT (fun V => Row V (w3.heap.size) 125 [.int .i64 N, .int .i64 Q, .int .i64 M, .int .i64 Q] ∧ RowN V (w.heap.size + 1) 28 2 ∧ RowN V (w.heap.size + 1 + 1) 28 2 ∧ Below w.heap.size w V) ⟨(Row.new w3 125 [.int .i64 0, .int .i64 0, .int .i64 0, .int .i64 0]).setRow _, ⟨_, rfl, HS3.out.2.1.old hbn⟩, ⟨_, rfl, HS3.out.2.2.1.old hbn⟩, HS3.out.2.2.2.trans (hbn.mono HS3.out.2.2.2.size)⟩ ?_
 clear hbn
 intro W4 s4
 have HS4 := Lib.hid s4
 clear s4 HS1 HS2 HS3 HC HD
 refine wp_region_held_drew (S := fun V => Row V (w3.heap.size) 125 [.int .i64 N, .int .i64 Q, .int .i64 M, .int .i64 Q] ∧ RowN V (w.heap.size + 1) 28 2 ∧ RowN V (w.heap.size + 1 + 1) 28 2 ∧ Below w.heap.size w V) (by kernel_rfl) ?_ (fun hHeld => ?_)
 · exact ⟨(HS4.out.1).drew, (HS4.out.2.1).drew, (HS4.out.2.2.1).drew, (HS4.out.2.2.2).drew⟩
 refine tk 0 16 ?_ rfl (by kernel_rfl) (fun _ _ _ h => h) (by kernel_rfl) ?_ hHeld ?_
 rotate_left
 · intro w1 hSw; (try dsimp only at hSw); go_simp <;> with_reducible rfl
 try simp only [zz]
 refine tk 1 17 (.agg #[.int .i64 N, .int .i64 Q]) rfl (by kernel_rfl) (fun _ _ _ h => h) (by kernel_rfl) (fun V hV => ex_quotient _ rfl (w3.heap.size) 0 rfl ((hV.1).cell 0) ((hV.1).cell 1)) hHeld ?_
 try simp only [zz]
 refine tk 3 19 ?_ rfl (by kernel_rfl) (fun _ _ _ h => h) (by kernel_rfl) ?_ hHeld ?_
 rotate_left
 · intro w1 hSw; (try dsimp only at hSw); go_simp <;> with_reducible rfl
 try simp only [zz]
 refine tk 4 20 (.agg #[.int .i64 M, .int .i64 Q]) rfl (by kernel_rfl) (fun _ _ _ h => h) (by kernel_rfl) (fun V hV => ex_quotient _ rfl (w3.heap.size) 2 rfl ((hV.1).cell 2) ((hV.1).cell 3)) hHeld ?_
 try simp only [zz]
 refine st1 2 (by kernel_rfl) rfl (fun K hK => ?_)
 go_simp
 go_at_call 70
 refine (HQ.out _).mono ?_
 rintro e v2 ⟨rfl, hb2⟩
 try go_simp
 refine hK.out _ _ ?_ (fun hHeld => ?_)
 · exact ⟨(hHeld.1).old hb2, (hHeld.2.1).old hb2, (hHeld.2.2.1).old hb2, (hHeld.2.2.2).trans ((hb2).mono (hHeld.2.2.2).size)⟩
 clear hK K
 try simp only [zz]
 refine st1 5 (by kernel_rfl) rfl (fun K hK => ?_)
 go_simp
 go_at_call 70
 refine (HR.out _).mono ?_
 rintro e v5 ⟨rfl, hb5⟩
 try go_simp
 refine hK.out _ _ ?_ (fun hHeld => ?_)
 · exact ⟨(hHeld.1).old hb5, (hHeld.2.1).old hb5, (hHeld.2.2.1).old hb5, (hHeld.2.2.2).trans ((hb5).mono (hHeld.2.2.2).size)⟩
 clear hK K
 try simp only [zz]
 refine st1 6 (by kernel_rfl) rfl (fun K hK => ?_)
 obtain ⟨vs0, hvl0, hvr0⟩ := (hHeld.2.1)
 have hLast0 := hHeld
 refine step_store_row rfl 28 _ _ rfl (w.heap.size + 1) [.int .i64 p, .int .i64 q] rfl rfl 28 vs0 hvr0 (by kernel_rfl) hvl0 (by simp [Value.oneCell']) ?_
 refine hK.out _ _ ?_ (fun hHeld => ?_)
 · exact ⟨(hHeld.1).farRow (by omega) _, ⟨_, rfl, hvr0.setRow _⟩, (hHeld.2.2.1).farN (by omega) _, Below.setRow (hHeld.2.2.2) (by omega) _⟩
 clear hK K
 try simp only [zz]
 refine st1 7 (by kernel_rfl) rfl (fun K hK => ?_)
 obtain ⟨vs1, hvl1, hvr1⟩ := (hHeld.2.2.1)
 have hLast1 := hHeld
 refine step_store_row rfl 28 _ _ rfl (w.heap.size + 1 + 1) [.int .i64 r, .int .i64 s] rfl rfl 28 vs1 hvr1 (by kernel_rfl) hvl1 (by simp [Value.oneCell']) ?_
 refine hK.out _ _ ?_ (fun hHeld => ?_)
 · exact ⟨(hHeld.1).farRow (by omega) _, (hHeld.2.1).farN (by omega) _, ⟨_, rfl, hvr1.setRow _⟩, Below.setRow (hHeld.2.2.2) (by omega) _⟩
 clear hK K
 try simp only [zz]
 refine tk 8 4 ?_ rfl (by kernel_rfl) (fun _ _ _ h => h) (by kernel_rfl) ?_ hHeld ?_
 rotate_left
 · intro w1 hSw; (try dsimp only at hSw); go_simp <;> with_reducible rfl
 try simp only [zz]
 refine wpAnyH_done (by kernel_rfl) ?_ _
 go_wp2_with fail
 refine bodyPost_ret (results_rrt rfl _ _ (w.heap.size + 1) (w.heap.size + 1 + 1) 28 28 #[.int .i64 p, .int .i64 q] #[.int .i64 r, .int .i64 s] (0, 0) (0, 0) _ _ rfl ((hvr0.setRow [.int .i64 p, .int .i64 q]).farRow (by omega) _) rfl (hvr1.setRow [.int .i64 r, .int .i64 s]) Tryz.underlying28 rfl (by kernel_rfl) Tryz.underlying28 rfl (by kernel_rfl)) rfl ⟨rfl, Below.setRow hLast1.2.2.2 (by omega) _⟩
def Tn (w : World) : Prop := ∀ j v, [(1 : Int), 0, 0, 1, -1, 0, 0, -1][j]? = some v → w.cell? ⟨0, j, none⟩ = some (.int .i64 v)
theorem Tn.old {w w' : World} (h : Tn w) (hb : Below w.heap.size w w') : Tn w' := fun j v hv => keepT (h j v hv) hb
theorem Tn.drew {w : World} (h : Tn w) : Tn w.drew := h
def iR (k : Int) : Int := if k = 0 then 1 else if k = 2 then -1 else 0
def iI (k : Int) : Int := if k = 1 then 1 else if k = 3 then -1 else 0
set_option maxRecDepth 100000 in
set_option maxHeartbeats 1000000 in
theorem checkTurns_any (k : Int) (w : World) : Calls Tryz.prog 85 #[.int .i64 k] w fun e w' => e = .returned (.int .i64 (whenI (rangeB k 0 3) 3)) ∧ w = w' := by
 go_enter Tryz.func85, Tryz.ntmps85
 go_wp2_with (go_at_call 97; refine (between_any _ _ _ _).mono ?_; rintro e w' ⟨rfl, rfl⟩)
 go_ret
 exact ⟨rfl, rfl⟩
set_option maxRecDepth 100000 in
set_option maxHeartbeats 1000000 in
theorem turn_any (k : Int) (w : World) (hT0 : Tn w) (hk : rangeB k 0 3 = false) : Calls Tryz.prog 87 #[.int .i64 k] w fun e w' => e = .returned (.agg #[.int .i64 (iR k), .int .i64 (iI k)]) ∧ Below w.heap.size w w' := by
 have hT := Lib.hid hT0
 clear hT0
 unfold rangeB at hk
 simp only [Bool.or_eq_false_iff, decide_eq_false_iff_not] at hk
 rcases (show k = 0 ∨ k = 1 ∨ k = 2 ∨ k = 3 by omega) with rfl | rfl | rfl | rfl
 · have c0 := hT.out 0 (1) rfl; have c1 := hT.out 1 (0) rfl
   have hbt : bits BinOp.and IntKind.i64 0 3 = 0 := by first | rfl | decide
   clear hT
   go_enter Tryz.func87, Tryz.ntmps87
   go_upto_region 1 with fail
   refine genT (fun V => Row V (w.heap.size) 23 [.int .i64 0, .int .i64 0] ∧ Below w.heap.size w V) ⟨(rowAt _ _ (by first | rfl | simp only [World.size_alloc])), ((Below.refl _ _).alloc (by first | exact Nat.le_refl _ | (simp only [World.size_alloc]; omega)) _)⟩ ?_
   intro W1 s1
   have HS1 := Lib.hid s1
   clear s1
   have c0' := keepT c0 HS1.out.2; have c1' := keepT c1 HS1.out.2
   go_wp2_with (refine wpList_store_row rfl 23 _ _ rfl (w.heap.size) #[.int .i64 (1), .int .i64 (0)] rfl rfl 23 _ HS1.out.1 ?_ ?_ ?_ ?_; (kernel_rfl); (rfl); (simp [Value.oneCell']))
   refine bodyPost_ret (results_rowA rfl _ _ (w.heap.size) 23 #[.int .i64 (1), .int .i64 (0)] (0, 0) _ rfl (HS1.out.1.setRow [.int .i64 (1), .int .i64 (0)]) Tryz.underlying23 rfl (by kernel_rfl)) rfl ⟨rfl, Below.setRow HS1.out.2 (by omega) _⟩
 · have c0 := hT.out 2 (0) rfl; have c1 := hT.out 3 (1) rfl
   have hbt : bits BinOp.and IntKind.i64 1 3 = 1 := by first | rfl | decide
   clear hT
   go_enter Tryz.func87, Tryz.ntmps87
   go_upto_region 1 with fail
   refine genT (fun V => Row V (w.heap.size) 23 [.int .i64 0, .int .i64 0] ∧ Below w.heap.size w V) ⟨(rowAt _ _ (by first | rfl | simp only [World.size_alloc])), ((Below.refl _ _).alloc (by first | exact Nat.le_refl _ | (simp only [World.size_alloc]; omega)) _)⟩ ?_
   intro W1 s1
   have HS1 := Lib.hid s1
   clear s1
   have c0' := keepT c0 HS1.out.2; have c1' := keepT c1 HS1.out.2
   go_wp2_with (refine wpList_store_row rfl 23 _ _ rfl (w.heap.size) #[.int .i64 (0), .int .i64 (1)] rfl rfl 23 _ HS1.out.1 ?_ ?_ ?_ ?_; (kernel_rfl); (rfl); (simp [Value.oneCell']))
   refine bodyPost_ret (results_rowA rfl _ _ (w.heap.size) 23 #[.int .i64 (0), .int .i64 (1)] (0, 0) _ rfl (HS1.out.1.setRow [.int .i64 (0), .int .i64 (1)]) Tryz.underlying23 rfl (by kernel_rfl)) rfl ⟨rfl, Below.setRow HS1.out.2 (by omega) _⟩
 · have c0 := hT.out 4 (-1) rfl; have c1 := hT.out 5 (0) rfl
   have hbt : bits BinOp.and IntKind.i64 2 3 = 2 := by first | rfl | decide
   clear hT
   go_enter Tryz.func87, Tryz.ntmps87
   go_upto_region 1 with fail
   refine genT (fun V => Row V (w.heap.size) 23 [.int .i64 0, .int .i64 0] ∧ Below w.heap.size w V) ⟨(rowAt _ _ (by first | rfl | simp only [World.size_alloc])), ((Below.refl _ _).alloc (by first | exact Nat.le_refl _ | (simp only [World.size_alloc]; omega)) _)⟩ ?_
   intro W1 s1
   have HS1 := Lib.hid s1
   clear s1
   have c0' := keepT c0 HS1.out.2; have c1' := keepT c1 HS1.out.2
   go_wp2_with (refine wpList_store_row rfl 23 _ _ rfl (w.heap.size) #[.int .i64 (-1), .int .i64 (0)] rfl rfl 23 _ HS1.out.1 ?_ ?_ ?_ ?_; (kernel_rfl); (rfl); (simp [Value.oneCell']))
   refine bodyPost_ret (results_rowA rfl _ _ (w.heap.size) 23 #[.int .i64 (-1), .int .i64 (0)] (0, 0) _ rfl (HS1.out.1.setRow [.int .i64 (-1), .int .i64 (0)]) Tryz.underlying23 rfl (by kernel_rfl)) rfl ⟨rfl, Below.setRow HS1.out.2 (by omega) _⟩
 · have c0 := hT.out 6 (0) rfl; have c1 := hT.out 7 (-1) rfl
   have hbt : bits BinOp.and IntKind.i64 3 3 = 3 := by first | rfl | decide
   clear hT
   go_enter Tryz.func87, Tryz.ntmps87
   go_upto_region 1 with fail
   refine genT (fun V => Row V (w.heap.size) 23 [.int .i64 0, .int .i64 0] ∧ Below w.heap.size w V) ⟨(rowAt _ _ (by first | rfl | simp only [World.size_alloc])), ((Below.refl _ _).alloc (by first | exact Nat.le_refl _ | (simp only [World.size_alloc]; omega)) _)⟩ ?_
   intro W1 s1
   have HS1 := Lib.hid s1
   clear s1
   have c0' := keepT c0 HS1.out.2; have c1' := keepT c1 HS1.out.2
   go_wp2_with (refine wpList_store_row rfl 23 _ _ rfl (w.heap.size) #[.int .i64 (0), .int .i64 (-1)] rfl rfl 23 _ HS1.out.1 ?_ ?_ ?_ ?_; (kernel_rfl); (rfl); (simp [Value.oneCell']))
   refine bodyPost_ret (results_rowA rfl _ _ (w.heap.size) 23 #[.int .i64 (0), .int .i64 (-1)] (0, 0) _ rfl (HS1.out.1.setRow [.int .i64 (0), .int .i64 (-1)]) Tryz.underlying23 rfl (by kernel_rfl)) rfl ⟨rfl, Below.setRow HS1.out.2 (by omega) _⟩
theorem iRI (k : Int) : Gs (iR k) (iI k) := by unfold Gs iR iI; constructor <;> (split <;> (first | decide | (split <;> decide)))
def resV (l : List Int) (e : Int) : List Value := if e = 0 then ints l else ints [0, 0, 0, 0, 0, 0]
theorem resV_six (a b c d x y e : Int) : ∃ r1 r2 r3 r4 r5 r6 : Int, resV [a, b, c, d, x, y] e = [.int .i64 r1, .int .i64 r2, .int .i64 r3, .int .i64 r4, .int .i64 r5, .int .i64 r6] := by
 unfold resV
 split
 · exact ⟨a, b, c, d, x, y, rfl⟩
 · exact ⟨0, 0, 0, 0, 0, 0, rfl⟩
theorem bigE_zero {e : Int} (h : bigE e = 0) : e = 0 := by
 unfold bigE at h
 split at h
 · cases h
 · exact h
theorem result_any (a b c d x y : Int) (w : World) : Calls Tryz.prog 83 #[.agg #[.int .i64 a, .int .i64 b, .int .i64 c, .int .i64 d, .int .i64 x, .int .i64 y]] w fun e w' => e = .returned (.tuple #[.agg (resV [a, b, c, d, x, y] (bigE (sigE a b c d x y))).toArray, .int .i64 (bigE (sigE a b c d x y))]) ∧ Below w.heap.size w w' := by
 by_cases h : bigE (sigE a b c d x y) = 0
 · have h0 := bigE_zero h
   rw [h, resV, if_pos rfl]
   exact result_ok a b c d x y w h0
 · rw [resV, if_neg h]
   exact result_bad a b c d x y _ w rfl h
theorem cell_farT {w : World} {g g' i : Nat} (cs : Array Value) (h : g ≠ g') : (w.setRow g' cs).cell? ⟨g, i, none⟩ = w.cell? ⟨g, i, none⟩ := by
 simp only [World.cell?, setRow_other w g' cs g h]
theorem tnSet {w : World} {g : Nat} (h : Tn w) (hg : 0 < g) (cs : Array Value) : Tn (w.setRow g cs) := fun j v hv => by
 have h1 := h j v hv
 rw [cell_farT cs (show 0 ≠ g by omega)]
 exact h1
set_option maxRecDepth 100000 in
set_option maxHeartbeats 1000000 in
theorem turned_bad (a b c d x y k E : Int) (w : World) (hT : Tn w) (hE : firstI [sigE a b c d x y, whenI (rangeB k 0 3) 3] = E) (h0 : E ≠ 0) : Calls Tryz.prog 22 #[.agg #[.int .i64 a, .int .i64 b, .int .i64 c, .int .i64 d, .int .i64 x, .int .i64 y], .int .i64 k] w fun e w' => e = .returned (.tuple #[.agg #[.int .i64 0, .int .i64 0, .int .i64 0, .int .i64 0, .int .i64 0, .int .i64 0], .int .i64 E]) ∧ Below w.heap.size w w' := by
 obtain ⟨E1, hE1⟩ : ∃ E1, E1 = sigE a b c d x y := ⟨_, rfl⟩
 obtain ⟨zk, hzk⟩ : ∃ zk, zk = whenI (rangeB k 0 3) 3 := ⟨_, rfl⟩
 rw [← hE1, ← hzk] at hE
 have HF : Hid (firstI [E1, zk] = E) := hE
 have HC : Hid (∀ W, Calls Tryz.prog 20 #[.agg #[.int .i64 a, .int .i64 b, .int .i64 c, .int .i64 d, .int .i64 x, .int .i64 y]] W fun e w' => e = .returned (.int .i64 E1) ∧ Below W.heap.size W w') := fun W => by rw [hE1]; exact checkSignal_any a b c d x y W
 have HK : Hid (∀ W, Calls Tryz.prog 85 #[.int .i64 k] W fun e w' => e = .returned (.int .i64 zk) ∧ W = w') := fun W => by rw [hzk]; exact checkTurns_any k W
 have hne : (E == 0) = false := by simpa using h0
 have hne2 : (E != 0) = true := by simpa using h0
 clear hE h0 hE1 hzk
 go_enter Tryz.func22, Tryz.ntmps22
 go_upto_region 1 with fail
 refine genT (fun V => Row V (w.heap.size) 32 [.int .i64 a, .int .i64 b, .int .i64 c, .int .i64 d, .int .i64 x, .int .i64 y] ∧ Row V (w.heap.size + 1) 32 [.int .i64 0, .int .i64 0, .int .i64 0, .int .i64 0, .int .i64 0, .int .i64 0] ∧ Tn V ∧ Below w.heap.size w V) ⟨(Row.alloc (rowAt _ _ (by first | rfl | simp only [World.size_alloc])) _), (rowAt _ _ (by first | rfl | simp only [World.size_alloc])), hT.old (((Below.refl _ _).alloc (by first | exact Nat.le_refl _ | (simp only [World.size_alloc]; omega)) _).alloc (by first | exact Nat.le_refl _ | (simp only [World.size_alloc]; omega)) _), (((Below.refl _ _).alloc (by first | exact Nat.le_refl _ | (simp only [World.size_alloc]; omega)) _).alloc (by first | exact Nat.le_refl _ | (simp only [World.size_alloc]; omega)) _)⟩ ?_
 intro W1 s1
 have HS1 := Lib.hid s1
 clear s1 hT
 go_upto_region 2 with (first | (refine wpList_load_row rfl 32 _ rfl (w.heap.size) rfl 32 #[.int .i64 a, .int .i64 b, .int .i64 c, .int .i64 d, .int .i64 x, .int .i64 y] (0, 0) _ HS1.out.1 Tryz.underlying32 rfl ?_ ?_; (kernel_rfl)) | (go_at_call 20; refine (HC.out _).mono ?_; rintro e w2 ⟨rfl, hb_w2⟩; have HS2 : Hid (Row w2 (w.heap.size) 32 [.int .i64 a, .int .i64 b, .int .i64 c, .int .i64 d, .int .i64 x, .int .i64 y] ∧ Row w2 (w.heap.size + 1) 32 [.int .i64 0, .int .i64 0, .int .i64 0, .int .i64 0, .int .i64 0, .int .i64 0] ∧ Tn w2 ∧ Below w.heap.size w w2) := ⟨(HS1.out.1).old hb_w2, (HS1.out.2.1).old hb_w2, (HS1.out.2.2.1).old hb_w2, (HS1.out.2.2.2).trans (hb_w2.mono (HS1.out.2.2.2).size)⟩; clear hb_w2) | (go_at_call 85; refine (HK.out _).mono ?_; rintro e w3 ⟨rfl, rfl⟩) | (go_at_call 80; refine (firstV_any _ _ _ [E1, zk] _ ?_ rfl (by simp)).mono ?_; exact Rd.newT (t := 29); rintro e w9 ⟨rfl, rfl⟩; rw [HF.out]; have HS3 := Lib.hid (⟨(HS2.out.1).old ((Below.refl _ _).alloc (Nat.le_refl _) _), (HS2.out.2.1).old ((Below.refl _ _).alloc (Nat.le_refl _) _), (HS2.out.2.2.1).old ((Below.refl _ _).alloc (Nat.le_refl _) _), (HS2.out.2.2.2).trans (((Below.refl _ _).alloc (Nat.le_refl _) _).mono (HS2.out.2.2.2).size)⟩ : Row (w2.alloc (.cells #[.int .i64 E1, .int .i64 zk] 29)) (w.heap.size) 32 [.int .i64 a, .int .i64 b, .int .i64 c, .int .i64 d, .int .i64 x, .int .i64 y] ∧ Row (w2.alloc (.cells #[.int .i64 E1, .int .i64 zk] 29)) (w.heap.size + 1) 32 [.int .i64 0, .int .i64 0, .int .i64 0, .int .i64 0, .int .i64 0, .int .i64 0] ∧ Tn (w2.alloc (.cells #[.int .i64 E1, .int .i64 zk] 29)) ∧ Below w.heap.size w (w2.alloc (.cells #[.int .i64 E1, .int .i64 zk] 29)))))
 go_wp2_with (refine wpList_store_row rfl 32 _ _ rfl (w.heap.size + 1) #[.int .i64 0, .int .i64 0, .int .i64 0, .int .i64 0, .int .i64 0, .int .i64 0] rfl rfl 32 _ HS3.out.2.1 ?_ ?_ ?_ ?_; (kernel_rfl); (rfl); (simp [Value.oneCell']))
 refine bodyPost_ret (results_rt rfl _ _ (w.heap.size + 1) 32 #[.int .i64 0, .int .i64 0, .int .i64 0, .int .i64 0, .int .i64 0, .int .i64 0] (0, 0) _ rfl (HS3.out.2.1.setRow [.int .i64 0, .int .i64 0, .int .i64 0, .int .i64 0, .int .i64 0, .int .i64 0]) Tryz.underlying32 rfl (by kernel_rfl)) rfl ⟨rfl, Below.setRow HS3.out.2.2.2 (by omega) _⟩
set_option maxRecDepth 100000 in
set_option maxHeartbeats 1000000 in
theorem turned_ok (a b c d x y k : Int) (w : World) (hT : Tn w) (hE : firstI [sigE a b c d x y, whenI (rangeB k 0 3) 3] = 0) : Calls Tryz.prog 22 #[.agg #[.int .i64 a, .int .i64 b, .int .i64 c, .int .i64 d, .int .i64 x, .int .i64 y], .int .i64 k] w fun e w' => e = .returned (.tuple #[.agg #[.int .i64 (a * iR k - b * iI k), .int .i64 (a * iI k + b * iR k), .int .i64 (c * iR k - d * iI k), .int .i64 (c * iI k + d * iR k), .int .i64 (x * iR k - y * iI k), .int .i64 (x * iI k + y * iR k)], .int .i64 0]) ∧ Below w.heap.size w w' := by
 obtain ⟨hs, hk⟩ := fI2 hE
 have hg := sig_good hs
 have hk := whenZ (by decide) hk
 obtain ⟨E, hE0, hE⟩ : ∃ E : Int, E = 0 ∧ firstI [sigE a b c d x y, whenI (rangeB k 0 3) 3] = E := ⟨0, rfl, hE⟩
 obtain ⟨E1, hE1⟩ : ∃ E1, E1 = sigE a b c d x y := ⟨_, rfl⟩
 obtain ⟨zk, hzk⟩ : ∃ zk, zk = whenI (rangeB k 0 3) 3 := ⟨_, rfl⟩
 rw [← hE1, ← hzk] at hE
 have HF : Hid (firstI [E1, zk] = E) := hE
 have HC : Hid (∀ W, Calls Tryz.prog 20 #[.agg #[.int .i64 a, .int .i64 b, .int .i64 c, .int .i64 d, .int .i64 x, .int .i64 y]] W fun e w' => e = .returned (.int .i64 E1) ∧ Below W.heap.size W w') := fun W => by rw [hE1]; exact checkSignal_any a b c d x y W
 have HK : Hid (∀ W, Calls Tryz.prog 85 #[.int .i64 k] W fun e w' => e = .returned (.int .i64 zk) ∧ W = w') := fun W => by rw [hzk]; exact checkTurns_any k W
 obtain ⟨p1, hp1⟩ : ∃ p, p = a * iR k - b * iI k := ⟨_, rfl⟩
 obtain ⟨p2, hp2⟩ : ∃ p, p = a * iI k + b * iR k := ⟨_, rfl⟩
 obtain ⟨p3, hp3⟩ : ∃ p, p = c * iR k - d * iI k := ⟨_, rfl⟩
 obtain ⟨p4, hp4⟩ : ∃ p, p = c * iI k + d * iR k := ⟨_, rfl⟩
 obtain ⟨p5, hp5⟩ : ∃ p, p = x * iR k - y * iI k := ⟨_, rfl⟩
 obtain ⟨p6, hp6⟩ : ∃ p, p = x * iI k + y * iR k := ⟨_, rfl⟩
 have HM : Hid (∀ W, Calls Tryz.prog 86 #[.agg #[.int .i64 a, .int .i64 b, .int .i64 c, .int .i64 d, .int .i64 x, .int .i64 y], .agg #[.int .i64 (iR k), .int .i64 (iI k)], .agg #[.int .i64 (iR k), .int .i64 (iI k)]] W fun e w' => e = .returned (.agg #[.int .i64 p1, .int .i64 p2, .int .i64 p3, .int .i64 p4, .int .i64 p5, .int .i64 p6]) ∧ Below W.heap.size W w') := fun W => by rw [hp1, hp2, hp3, hp4, hp5, hp6]; exact mulS_any a b c d x y (iR k) (iI k) (iR k) (iI k) W hg.g1 hg.g2 hg.g3 (iRI k) (iRI k)
 rw [← hp1, ← hp2, ← hp3, ← hp4, ← hp5, ← hp6]
 have HTU : Hid (∀ W, Tn W → Calls Tryz.prog 87 #[.int .i64 k] W fun e w' => e = .returned (.agg #[.int .i64 (iR k), .int .i64 (iI k)]) ∧ Below W.heap.size W w') := fun W h => turn_any k W h hk
 obtain ⟨u, hu⟩ : ∃ u, u = iR k := ⟨_, rfl⟩
 obtain ⟨v, hv⟩ : ∃ v, v = iI k := ⟨_, rfl⟩
 rw [← hu, ← hv] at HM HTU
 subst hE0
 clear hE hE1 hzk hs hg hk hp1 hp2 hp3 hp4 hp5 hp6 hu hv
 go_enter Tryz.func22, Tryz.ntmps22
 go_upto_region 1 with fail
 refine genT (fun V => Row V (w.heap.size) 32 [.int .i64 a, .int .i64 b, .int .i64 c, .int .i64 d, .int .i64 x, .int .i64 y] ∧ Row V (w.heap.size + 1) 32 [.int .i64 0, .int .i64 0, .int .i64 0, .int .i64 0, .int .i64 0, .int .i64 0] ∧ Tn V ∧ Below w.heap.size w V) ⟨(Row.alloc (rowAt _ _ (by first | rfl | simp only [World.size_alloc])) _), (rowAt _ _ (by first | rfl | simp only [World.size_alloc])), hT.old (((Below.refl _ _).alloc (by first | exact Nat.le_refl _ | (simp only [World.size_alloc]; omega)) _).alloc (by first | exact Nat.le_refl _ | (simp only [World.size_alloc]; omega)) _), (((Below.refl _ _).alloc (by first | exact Nat.le_refl _ | (simp only [World.size_alloc]; omega)) _).alloc (by first | exact Nat.le_refl _ | (simp only [World.size_alloc]; omega)) _)⟩ ?_
 intro W1 s1
 have HS1 := Lib.hid s1
 clear s1 hT
 go_upto_region 4 with (first | (refine wpList_load_row rfl 32 _ rfl (w.heap.size) rfl 32 #[.int .i64 a, .int .i64 b, .int .i64 c, .int .i64 d, .int .i64 x, .int .i64 y] (0, 0) _ HS1.out.1 Tryz.underlying32 rfl ?_ ?_; (kernel_rfl)) | (go_at_call 20; refine (HC.out _).mono ?_; rintro e w2 ⟨rfl, hb_w2⟩; have HS2 : Hid (Row w2 (w.heap.size) 32 [.int .i64 a, .int .i64 b, .int .i64 c, .int .i64 d, .int .i64 x, .int .i64 y] ∧ Row w2 (w.heap.size + 1) 32 [.int .i64 0, .int .i64 0, .int .i64 0, .int .i64 0, .int .i64 0, .int .i64 0] ∧ Tn w2 ∧ Below w.heap.size w w2) := ⟨(HS1.out.1).old hb_w2, (HS1.out.2.1).old hb_w2, (HS1.out.2.2.1).old hb_w2, (HS1.out.2.2.2).trans (hb_w2.mono (HS1.out.2.2.2).size)⟩; clear hb_w2) | (go_at_call 85; refine (HK.out _).mono ?_; rintro e w3 ⟨rfl, rfl⟩) | (go_at_call 80; refine (firstV_any _ _ _ [E1, zk] _ ?_ rfl (by simp)).mono ?_; exact Rd.newT (t := 29); rintro e w9 ⟨rfl, rfl⟩; rw [HF.out]; have HS3 := Lib.hid (⟨(HS2.out.1).old ((Below.refl _ _).alloc (Nat.le_refl _) _), (HS2.out.2.1).old ((Below.refl _ _).alloc (Nat.le_refl _) _), (HS2.out.2.2.1).old ((Below.refl _ _).alloc (Nat.le_refl _) _), (HS2.out.2.2.2).trans (((Below.refl _ _).alloc (Nat.le_refl _) _).mono (HS2.out.2.2.2).size)⟩ : Row (w2.alloc (.cells #[.int .i64 E1, .int .i64 zk] 29)) (w.heap.size) 32 [.int .i64 a, .int .i64 b, .int .i64 c, .int .i64 d, .int .i64 x, .int .i64 y] ∧ Row (w2.alloc (.cells #[.int .i64 E1, .int .i64 zk] 29)) (w.heap.size + 1) 32 [.int .i64 0, .int .i64 0, .int .i64 0, .int .i64 0, .int .i64 0, .int .i64 0] ∧ Tn (w2.alloc (.cells #[.int .i64 E1, .int .i64 zk] 29)) ∧ Below w.heap.size w (w2.alloc (.cells #[.int .i64 E1, .int .i64 zk] 29)))))
 refine genT (fun V => Row V (w.heap.size) 32 [.int .i64 a, .int .i64 b, .int .i64 c, .int .i64 d, .int .i64 x, .int .i64 y] ∧ RowN V (w.heap.size + 1) 32 6 ∧ Tn V ∧ Below w.heap.size w V) ⟨HS3.out.1, ⟨_, rfl, HS3.out.2.1⟩, HS3.out.2.2.1, HS3.out.2.2.2⟩ ?_
 clear HS1 HS2 HS3 HC HK HF
 intro W4 s4
 have HS4 := Lib.hid s4
 clear s4
 refine wp_region_held_drew (S := fun V => Row V (w.heap.size) 32 [.int .i64 a, .int .i64 b, .int .i64 c, .int .i64 d, .int .i64 x, .int .i64 y] ∧ RowN V (w.heap.size + 1) 32 6 ∧ Tn V ∧ Below w.heap.size w V) (by kernel_rfl) ?_ (fun hHeld => ?_)
 · exact ⟨(HS4.out.1).drew, (HS4.out.2.1).drew, (HS4.out.2.2.1).drew, (HS4.out.2.2.2).drew⟩
 refine tk 0 17 (.agg #[.int .i64 a, .int .i64 b, .int .i64 c, .int .i64 d, .int .i64 x, .int .i64 y]) rfl (by kernel_rfl) (fun _ _ _ h => h) (by kernel_rfl) (fun V hV => ex_rowT 32 _ rfl (w.heap.size) rfl 32 [.int .i64 a, .int .i64 b, .int .i64 c, .int .i64 d, .int .i64 x, .int .i64 y] _ Tryz.underlying32 rfl (by kernel_rfl) (hV.1)) hHeld ?_
 try simp only [zz]
 refine tk 1 18 ?_ rfl (by kernel_rfl) (fun _ _ _ h => h) (by kernel_rfl) ?_ hHeld ?_
 rotate_left
 · intro w1 hSw; (try dsimp only at hSw); go_simp <;> with_reducible rfl
 try simp only [zz]
 refine tk 3 20 ?_ rfl (by kernel_rfl) (fun _ _ _ h => h) (by kernel_rfl) ?_ hHeld ?_
 rotate_left
 · intro w1 hSw; (try dsimp only at hSw); go_simp <;> with_reducible rfl
 try simp only [zz]
 refine st1 2 (by kernel_rfl) rfl (fun K hK => ?_)
 go_simp
 go_at_call 87
 refine (HTU.out _ (hHeld.2.2.1)).mono ?_
 rintro e v2 ⟨rfl, hb2⟩
 try go_simp
 refine hK.out _ _ ?_ (fun hHeld => ?_)
 · exact ⟨(hHeld.1).old hb2, (hHeld.2.1).old hb2, (hHeld.2.2.1).old hb2, (hHeld.2.2.2).trans ((hb2).mono (hHeld.2.2.2).size)⟩
 clear hK K
 try simp only [zz]
 refine st1 4 (by kernel_rfl) rfl (fun K hK => ?_)
 go_simp
 go_at_call 87
 refine (HTU.out _ (hHeld.2.2.1)).mono ?_
 rintro e v4 ⟨rfl, hb4⟩
 try go_simp
 refine hK.out _ _ ?_ (fun hHeld => ?_)
 · exact ⟨(hHeld.1).old hb4, (hHeld.2.1).old hb4, (hHeld.2.2.1).old hb4, (hHeld.2.2.2).trans ((hb4).mono (hHeld.2.2.2).size)⟩
 clear hK K
 try simp only [zz]
 refine st1 5 (by kernel_rfl) rfl (fun K hK => ?_)
 go_simp
 go_at_call 86
 refine (HM.out _).mono ?_
 rintro e v5 ⟨rfl, hb5⟩
 try go_simp
 refine hK.out _ _ ?_ (fun hHeld => ?_)
 · exact ⟨(hHeld.1).old hb5, (hHeld.2.1).old hb5, (hHeld.2.2.1).old hb5, (hHeld.2.2.2).trans ((hb5).mono (hHeld.2.2.2).size)⟩
 clear hK K
 try simp only [zz]
 refine st1 6 (by kernel_rfl) rfl (fun K hK => ?_)
 obtain ⟨vs, hvl, hvr⟩ := (hHeld.2.1)
 have hLast := hHeld
 refine step_store_row rfl 32 _ _ rfl (w.heap.size + 1) [.int .i64 p1, .int .i64 p2, .int .i64 p3, .int .i64 p4, .int .i64 p5, .int .i64 p6] rfl rfl 32 vs hvr (by kernel_rfl) hvl (by simp [Value.oneCell']) ?_
 refine hK.out _ _ ?_ (fun hHeld => ?_)
 · exact ⟨(hHeld.1).farRow (by omega) _, ⟨_, rfl, hvr.setRow _⟩, tnSet hHeld.2.2.1 (by omega) _, Below.setRow (hHeld.2.2.2) (by omega) _⟩
 clear hK K
 try simp only [zz]
 refine tk 7 5 ?_ rfl (by kernel_rfl) (fun _ _ _ h => h) (by kernel_rfl) ?_ hHeld ?_
 rotate_left
 · intro w1 hSw; (try dsimp only at hSw); go_simp <;> with_reducible rfl
 try simp only [zz]
 refine wpAnyH_done (by kernel_rfl) ?_ _
 go_wp2_with fail
 refine bodyPost_ret (results_rt rfl _ _ (w.heap.size + 1) 32 #[.int .i64 p1, .int .i64 p2, .int .i64 p3, .int .i64 p4, .int .i64 p5, .int .i64 p6] (0, 0) _ rfl (hvr.setRow [.int .i64 p1, .int .i64 p2, .int .i64 p3, .int .i64 p4, .int .i64 p5, .int .i64 p6]) Tryz.underlying32 rfl (by kernel_rfl)) rfl ⟨rfl, Below.setRow hLast.2.2.2 (by omega) _⟩
set_option maxRecDepth 100000 in
set_option maxHeartbeats 1000000 in
theorem lowest_any (a b : Int) (w : World) (ha : Bd a) (hb : 0 < b ∧ b ≤ 9223372036854775807) : Calls Tryz.prog 15 #[.int .i64 a, .int .i64 b] w fun e w' => e = .returned (.agg #[.int .i64 (a.tdiv (gcdI a b)), .int .i64 (b / gcdI a b)]) ∧ Below w.heap.size w w' := by
 have hb2 : Bd b := by unfold Bd; omega
 have Ha := Lib.hid ha; have Hb := Lib.hid hb2
 have hg0 : 0 < gcdI a b := by
  unfold gcdI
  have := Int.gcd_pos_of_ne_zero_right a (b := b) (by omega)
  omega
 obtain ⟨gb, hgb⟩ : ∃ gb, gb = gcdI a b := ⟨_, rfl⟩
 rw [← hgb] at hg0 ⊢
 have Hgb := Lib.hid hgb
 have hbd : Bd a := Ha.out
 unfold Bd at hbd
 have u1 : -9223372036854775807 ≤ a.tdiv gb ∧ a.tdiv gb ≤ 9223372036854775807 := by
  have h1 : (a.tdiv gb).natAbs ≤ a.natAbs := by rw [Int.natAbs_tdiv]; exact Nat.div_le_self _ _
  omega
 have u2 : 0 ≤ b / gb ∧ b / gb ≤ b := ⟨Int.ediv_nonneg (by omega) (by omega), Int.ediv_le_self _ (by omega)⟩
 have hbt : b.tdiv gb = b / gb := Int.tdiv_eq_ediv_of_nonneg (by omega)
 have e1 : IntKind.i64.wrap (a.tdiv gb) = a.tdiv gb := IntWalk.i64_in _ (by omega)
 have e2 : IntKind.i64.wrap (b / gb) = b / gb := IntWalk.i64_in _ (by omega)
 have e2' : IntKind.i64.wrap (b.tdiv gb) = b / gb := by rw [hbt]; exact e2
 have e5 : wrap64 (a.tdiv gb) = a.tdiv gb := by unfold wrap64; omega
 have e6 : wrap64 (b / gb) = b / gb := by unfold wrap64; omega
 have hne : ¬ gb = 0 := by omega
 have hne2 : (gb == 0) = false := by simpa using hne
 have hbn : ¬ b < 0 := by omega
 have Hbt := Lib.hid hbt
 clear hgb ha hb2 hbd u1 u2 hbt
 go_enter Tryz.func15, Tryz.ntmps15
 go_upto_region 3 with fail
 refine genA w.heap.size 28 [.int .i64 0, .int .i64 0] (Row.new w 28 [.int .i64 0, .int .i64 0]) ((Below.refl w.heap.size w).alloc (Nat.le_refl _) _) ?_
 intro W R0 RB
 have HR := Lib.hid R0; have HRB := Lib.hid RB
 clear R0 RB
 go_wp2_with (go_at_call 77; refine (divisorR_any a b _ Ha.out Hb.out).mono ?_; rintro e w1 ⟨rfl, q2, rfl⟩; rw [← Hgb.out])
 go_upto_region 4 with fail
 refine wp_region_held_drew (S := fun _ => True) (by kernel_rfl) ?_ (fun hHeld => ?_)
 · trivial
 refine tk 0 15 ?_ rfl (by kernel_rfl) (fun _ _ _ h => h) (by kernel_rfl) ?_ hHeld ?_
 rotate_left
 · intro w1 hSw; (try dsimp only at hSw); go_simp <;> with_reducible rfl
 try simp only [zz]
 refine tk 1 16 ?_ rfl (by kernel_rfl) (fun _ _ _ h => h) (by kernel_rfl) ?_ hHeld ?_
 rotate_left
 · intro w1 hSw; (try dsimp only at hSw); go_simp <;> with_reducible rfl
 try simp only [zz]
 refine tk 2 17 ?_ rfl (by kernel_rfl) (fun _ _ _ h => h) (by kernel_rfl) ?_ hHeld ?_
 rotate_left
 · intro w1 hSw; (try dsimp only at hSw); go_simp <;> with_reducible rfl
 try simp only [zz]
 refine tk 3 18 ?_ rfl (by kernel_rfl) (fun _ _ _ h => h) (by kernel_rfl) ?_ hHeld ?_
 rotate_left
 · intro w1 hSw; (try dsimp only at hSw); go_simp <;> with_reducible rfl
 try simp only [zz]
 refine tk 4 19 ?_ rfl (by kernel_rfl) (fun _ _ _ h => h) (by kernel_rfl) ?_ hHeld ?_
 rotate_left
 · intro w1 hSw; (try dsimp only at hSw); go_simp <;> with_reducible rfl
 try simp only [zz]
 refine tk 5 20 ?_ rfl (by kernel_rfl) (fun _ _ _ h => h) (by kernel_rfl) ?_ hHeld ?_
 rotate_left
 · intro w1 hSw; (try dsimp only at hSw); go_simp <;> with_reducible rfl
 try simp only [zz]
 refine tk 6 21 ?_ rfl (by kernel_rfl) (fun _ _ _ h => h) (by kernel_rfl) ?_ hHeld ?_
 rotate_left
 · intro w1 hSw; (try dsimp only at hSw); go_simp <;> with_reducible rfl
 try simp only [zz]
 refine st1 7 (by kernel_rfl) rfl (fun K hK => ?_)
 refine step_store_row rfl 28 _ _ rfl w.heap.size [.int .i64 (a.tdiv gb), .int .i64 (b / gb)] rfl rfl 28 [.int .i64 0, .int .i64 0] HR.out (by kernel_rfl) rfl (by simp [Value.oneCell']) ?_
 refine hK.out _ _ ?_ (fun hHeld => ?_)
 · trivial
 clear hK K
 try simp only [zz]
 refine wpAnyH_done (by kernel_rfl) ?_ _
 go_wp2
 have hrow : Row (((W.drewN q2).drew).setRow w.heap.size [Value.int .i64 (a.tdiv gb), .int .i64 (b / gb)].toArray) w.heap.size 28 [.int .i64 (a.tdiv gb), .int .i64 (b / gb)] := Row.setRow (w := (W.drewN q2).drew) HR.out _
 refine bodyPost_ret (results_rowA rfl _ _ w.heap.size 28 _ (0, 0) _ rfl hrow Tryz.underlying28 rfl (by kernel_rfl)) rfl ⟨rfl, ?_⟩
 have hb0 := HRB.out
 exact Below.setRow (w := (W.drewN q2).drew) ⟨hb0.os, hb0.tape, hb0.output, hb0.size, hb0.block⟩ (Nat.le_refl _) _
end Go.Proofs.YtcaekblnioidiaaGreatDoor
