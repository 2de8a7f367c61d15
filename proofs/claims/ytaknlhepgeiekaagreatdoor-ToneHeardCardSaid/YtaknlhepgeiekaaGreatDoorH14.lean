import Derived.Test.YtaknlhepgeiekaaGreatDoorH13
namespace Go.Proofs.YtaknlhepgeiekaaGreatDoor
set_option linter.all false
open Go.RowKit Go.Fl
set_option maxRecDepth 100000
set_option maxHeartbeats 1000000
theorem ex_quotient {o : Oper} {a : Act} {w : World} {u v : Value} (x : Operand) (ho : o.op = .load 141 x) (g off : Nat) (hx : a.eval x = .pointer (some ⟨g, off, none⟩)) (c0 : w.cell? ⟨g, off, none⟩ = some u) (c1 : w.cell? ⟨g, off + 1, none⟩ = some v) :
 (execOp a.eval o).run Tryz.prog w = .ok (.value (.agg #[u, v])) w := by
 unfold execOp
 simp only [ho, hx]
 go_simp
theorem depthsT_ok (a b c d x y : Int) (w : World) (hE : sigE a b c d x y = 0) : Calls Tryz.prog 30 #[.agg #[.int .i64 a, .int .i64 b, .int .i64 c, .int .i64 d, .int .i64 x, .int .i64 y]] w fun e w' => e = .returned (.tuple #[.agg (lowV (c * a + d * b) (a * a + b * b)).toArray, .agg (lowV (x * a + y * b) (a * a + b * b)).toArray, .int .i64 0]) ∧ Below w.heap.size w w' := by
 have hg := sig_good hE
 have k1 := hg.g2.along hg.g1; have k2 := hg.g3.along hg.g1; have k3 := hg.pos
 obtain ⟨E, hE0⟩ : ∃ E : Int, E = 0 := ⟨_, rfl⟩
 rw [← hE0] at hE
 have HC : Hid (∀ W, Calls Tryz.prog 44 #[.agg #[.int .i64 a, .int .i64 b, .int .i64 c, .int .i64 d, .int .i64 x, .int .i64 y]] W fun e w' => e = .returned (.int .i64 E) ∧ Below W.heap.size W w') := fun W => by rw [← hE]; exact checkSignal_any a b c d x y W
 subst hE0
 have HD : Hid (∀ W, Calls Tryz.prog 82 #[.agg #[.int .i64 a, .int .i64 b, .int .i64 c, .int .i64 d, .int .i64 x, .int .i64 y]] W fun e w' => e = .returned (.agg #[.int .i64 (c * a + d * b), .int .i64 (a * a + b * b), .int .i64 (x * a + y * b), .int .i64 (a * a + b * b)]) ∧ Below W.heap.size W w') := fun W => depths_any a b c d x y W hg.g1 hg.g2 hg.g3
 obtain ⟨N, hN⟩ : ∃ N, N = c * a + d * b := ⟨_, rfl⟩
 obtain ⟨M, hM⟩ : ∃ M, M = x * a + y * b := ⟨_, rfl⟩
 obtain ⟨Q, hQ⟩ : ∃ Q, Q = a * a + b * b := ⟨_, rfl⟩
 have hbN : Bd N := by unfold Bd; omega
 have hbM : Bd M := by unfold Bd; omega
 rw [← hN, ← hM, ← hQ] at HD ⊢
 rw [← hQ] at k3
 obtain ⟨p, hp⟩ : ∃ p, p = N.tdiv (gcdI N Q) := ⟨_, rfl⟩
 obtain ⟨q, hq⟩ : ∃ q, q = Q / gcdI N Q := ⟨_, rfl⟩
 obtain ⟨r, hr⟩ : ∃ r, r = M.tdiv (gcdI M Q) := ⟨_, rfl⟩
 obtain ⟨s, hs⟩ : ∃ s, s = Q / gcdI M Q := ⟨_, rfl⟩
 have HQ : Hid (∀ W, Calls Tryz.prog 62 #[.agg #[.int .i64 N, .int .i64 Q]] W fun e w' => e = .returned (.agg #[.int .i64 p, .int .i64 q]) ∧ Below W.heap.size W w') := fun W => by rw [hp, hq]; exact ratioQ_any N Q W hbN k3
 have HR : Hid (∀ W, Calls Tryz.prog 62 #[.agg #[.int .i64 M, .int .i64 Q]] W fun e w' => e = .returned (.agg #[.int .i64 r, .int .i64 s]) ∧ Below W.heap.size W w') := fun W => by rw [hr, hs]; exact ratioQ_any M Q W hbM k3
 have hl1 : lowV N Q = [.int .i64 p, .int .i64 q] := by unfold lowV; rw [← hp, ← hq]
 have hl2 : lowV M Q = [.int .i64 r, .int .i64 s] := by unfold lowV; rw [← hr, ← hs]
 rw [hl1, hl2]
 clear hE hg k1 k2 k3 hN hM hQ hbN hbM hp hq hr hs hl1 hl2
 go_enter Tryz.func30, Tryz.ntmps30
 go_upto_region 1 with fail
 refine genT (fun V => Row V (w.heap.size) 35 [.int .i64 a, .int .i64 b, .int .i64 c, .int .i64 d, .int .i64 x, .int .i64 y] ∧ Row V (w.heap.size + 1) 61 [.int .i64 0, .int .i64 0] ∧ Row V (w.heap.size + 1 + 1) 61 [.int .i64 0, .int .i64 0] ∧ Below w.heap.size w V) ⟨(Row.alloc (Row.alloc (rowAt _ _ (by first | rfl | simp only [World.size_alloc])) _) _), (Row.alloc (rowAt _ _ (by first | rfl | simp only [World.size_alloc])) _), (rowAt _ _ (by first | rfl | simp only [World.size_alloc])), ((((Below.refl _ _).alloc (by first | exact Nat.le_refl _ | (simp only [World.size_alloc]; omega)) _).alloc (by first | exact Nat.le_refl _ | (simp only [World.size_alloc]; omega)) _).alloc (by first | exact Nat.le_refl _ | (simp only [World.size_alloc]; omega)) _)⟩ ?_
 intro W1 s1
 have HS1 := Lib.hid s1
 clear s1
 go_upto_region 5 with (first | (refine wpList_load_row rfl 35 _ rfl (w.heap.size) rfl 35 #[.int .i64 a, .int .i64 b, .int .i64 c, .int .i64 d, .int .i64 x, .int .i64 y] (0, 0) _ HS2.out.1 Tryz.underlying35 rfl ?_ ?_; (kernel_rfl)) | (refine wpList_load_row rfl 35 _ rfl (w.heap.size) rfl 35 #[.int .i64 a, .int .i64 b, .int .i64 c, .int .i64 d, .int .i64 x, .int .i64 y] (0, 0) _ HS1.out.1 Tryz.underlying35 rfl ?_ ?_; (kernel_rfl)) | (go_at_call 44; refine (HC.out _).mono ?_; rintro e w2 ⟨rfl, hb_w2⟩; have HS2 : Hid (Row w2 (w.heap.size) 35 [.int .i64 a, .int .i64 b, .int .i64 c, .int .i64 d, .int .i64 x, .int .i64 y] ∧ Row w2 (w.heap.size + 1) 61 [.int .i64 0, .int .i64 0] ∧ Row w2 (w.heap.size + 1 + 1) 61 [.int .i64 0, .int .i64 0] ∧ Below w.heap.size w w2) := ⟨(HS1.out.1).old hb_w2, (HS1.out.2.1).old hb_w2, (HS1.out.2.2.1).old hb_w2, (HS1.out.2.2.2).trans (hb_w2.mono (HS1.out.2.2.2).size)⟩; clear hb_w2) | (go_at_call 82; refine (HD.out _).mono ?_; rintro e w3 ⟨rfl, hb_w3⟩; have HS3 : Hid (Row w3 (w.heap.size) 35 [.int .i64 a, .int .i64 b, .int .i64 c, .int .i64 d, .int .i64 x, .int .i64 y] ∧ Row w3 (w.heap.size + 1) 61 [.int .i64 0, .int .i64 0] ∧ Row w3 (w.heap.size + 1 + 1) 61 [.int .i64 0, .int .i64 0] ∧ Below w.heap.size w w3) := ⟨(HS2.out.1).old hb_w3, (HS2.out.2.1).old hb_w3, (HS2.out.2.2.1).old hb_w3, (HS2.out.2.2.2).trans (hb_w3.mono (HS2.out.2.2.2).size)⟩; clear hb_w3) | (refine wpList_store_row rfl 164 _ _ rfl (w3.heap.size) #[.int .i64 N, .int .i64 Q, .int .i64 M, .int .i64 Q] rfl rfl 164 _ (Row.new w3 164 [.int .i64 0, .int .i64 0, .int .i64 0, .int .i64 0]) ?_ ?_ ?_ ?_; (kernel_rfl); (rfl); (simp [Value.oneCell'])))
 have hz : w.heap.size + 1 + 1 < w3.heap.size := HS3.out.2.2.1.lt
 have hbn : Below w3.heap.size w3 ((w3.alloc (.cells #[.int .i64 0, .int .i64 0, .int .i64 0, .int .i64 0] 164)).setRow w3.heap.size #[.int .i64 N, .int .i64 Q, .int .i64 M, .int .i64 Q]) := Below.setRow ((Below.refl _ _).alloc (Nat.le_refl _) _) (Nat.le_refl _) _
 refine genT (fun V => Row V (w3.heap.size) 164 [.int .i64 N, .int .i64 Q, .int .i64 M, .int .i64 Q] ∧ RowN V (w.heap.size + 1) 61 2 ∧ RowN V (w.heap.size + 1 + 1) 61 2 ∧ Below w.heap.size w V) ⟨(Row.new w3 164 [.int .i64 0, .int .i64 0, .int .i64 0, .int .i64 0]).setRow _, ⟨_, rfl, HS3.out.2.1.old hbn⟩, ⟨_, rfl, HS3.out.2.2.1.old hbn⟩, HS3.out.2.2.2.trans (hbn.mono HS3.out.2.2.2.size)⟩ ?_
 clear hbn
 intro W4 s4
 have HS4 := Lib.hid s4
 clear s4 HS1 HS2 HS3 HC HD
 refine wp_region_held_drew (S := fun V => Row V (w3.heap.size) 164 [.int .i64 N, .int .i64 Q, .int .i64 M, .int .i64 Q] ∧ RowN V (w.heap.size + 1) 61 2 ∧ RowN V (w.heap.size + 1 + 1) 61 2 ∧ Below w.heap.size w V) (by kernel_rfl) ?_ (fun hHeld => ?_)
 · exact ⟨(HS4.out.1).drew, (HS4.out.2.1).drew, (HS4.out.2.2.1).drew, (HS4.out.2.2.2).drew⟩
 refine ta 0 16 hHeld ?_
 try simp only [zz]
 refine tk 1 17 (.agg #[.int .i64 N, .int .i64 Q]) rfl (by kernel_rfl) (fun _ _ _ h => h) (by kernel_rfl) (fun V hV => ex_quotient _ rfl (w3.heap.size) 0 rfl ((hV.1).cell 0) ((hV.1).cell 1)) hHeld ?_
 try simp only [zz]
 refine ta 3 19 hHeld ?_
 try simp only [zz]
 refine tk 4 20 (.agg #[.int .i64 M, .int .i64 Q]) rfl (by kernel_rfl) (fun _ _ _ h => h) (by kernel_rfl) (fun V hV => ex_quotient _ rfl (w3.heap.size) 2 rfl ((hV.1).cell 2) ((hV.1).cell 3)) hHeld ?_
 try simp only [zz]
 refine st2 2 (fun K hK => ?_)
 go_simp
 go_at_call 62
 refine (HQ.out _).mono ?_
 rintro e v2 ⟨rfl, hb2⟩
 try go_simp
 refine hK.out _ _ ?_ (fun hHeld => ?_)
 · exact ⟨(hHeld.1).old hb2, (hHeld.2.1).old hb2, (hHeld.2.2.1).old hb2, (hHeld.2.2.2).trans ((hb2).mono (hHeld.2.2.2).size)⟩
 clear hK K
 try simp only [zz]
 refine st2 5 (fun K hK => ?_)
 go_simp
 go_at_call 62
 refine (HR.out _).mono ?_
 rintro e v5 ⟨rfl, hb5⟩
 try go_simp
 refine hK.out _ _ ?_ (fun hHeld => ?_)
 · exact ⟨(hHeld.1).old hb5, (hHeld.2.1).old hb5, (hHeld.2.2.1).old hb5, (hHeld.2.2.2).trans ((hb5).mono (hHeld.2.2.2).size)⟩
 clear hK K
 try simp only [zz]
 refine st2 6 (fun K hK => ?_)
 obtain ⟨vs0, hvl0, hvr0⟩ := (hHeld.2.1)
 have hLast0 := hHeld
 refine step_store_row rfl 61 _ _ rfl (w.heap.size + 1) [.int .i64 p, .int .i64 q] rfl rfl 61 vs0 hvr0 (by kernel_rfl) hvl0 (by simp [Value.oneCell']) ?_
 refine hK.out _ _ ?_ (fun hHeld => ?_)
 · exact ⟨(hHeld.1).farRow (by omega) _, ⟨_, rfl, hvr0.setRow _⟩, (hHeld.2.2.1).farN (by omega) _, Below.setRow (hHeld.2.2.2) (by omega) _⟩
 clear hK K
 try simp only [zz]
 refine st2 7 (fun K hK => ?_)
 obtain ⟨vs1, hvl1, hvr1⟩ := (hHeld.2.2.1)
 have hLast1 := hHeld
 refine step_store_row rfl 61 _ _ rfl (w.heap.size + 1 + 1) [.int .i64 r, .int .i64 s] rfl rfl 61 vs1 hvr1 (by kernel_rfl) hvl1 (by simp [Value.oneCell']) ?_
 refine hK.out _ _ ?_ (fun hHeld => ?_)
 · exact ⟨(hHeld.1).farRow (by omega) _, (hHeld.2.1).farN (by omega) _, ⟨_, rfl, hvr1.setRow _⟩, Below.setRow (hHeld.2.2.2) (by omega) _⟩
 clear hK K
 try simp only [zz]
 refine ta 8 4 hHeld ?_
 try simp only [zz]
 refine wpAnyH_done (by kernel_rfl) ?_ _
 go_wp2_with fail
 refine bodyPost_ret (results_rrt rfl _ _ (w.heap.size + 1) (w.heap.size + 1 + 1) 61 61 #[.int .i64 p, .int .i64 q] #[.int .i64 r, .int .i64 s] (0, 0) (0, 0) _ _ rfl ((hvr0.setRow [.int .i64 p, .int .i64 q]).farRow (by omega) _) rfl (hvr1.setRow [.int .i64 r, .int .i64 s]) Tryz.underlying61 rfl (by kernel_rfl) Tryz.underlying61 rfl (by kernel_rfl)) rfl ⟨rfl, Below.setRow hLast1.2.2.2 (by omega) _⟩
def Tn (w : World) : Prop := ∀ j v, [(1 : Int), 0, 0, 1, -1, 0, 0, -1][j]? = some v → w.cell? ⟨0, j, none⟩ = some (.int .i64 v)
theorem Tn.old {w w' : World} (h : Tn w) (hb : Below w.heap.size w w') : Tn w' := fun j v hv => keepT (h j v hv) hb
theorem Tn.drew {w : World} (h : Tn w) : Tn w.drew := h
def iR (k : Int) : Int := if k = 0 then 1 else if k = 2 then -1 else 0
def iI (k : Int) : Int := if k = 1 then 1 else if k = 3 then -1 else 0
theorem checkTurns_any (k : Int) (w : World) : Calls Tryz.prog 65 #[.int .i64 k] w fun e w' => e = .returned (.int .i64 (whenI (rangeB k 0 3) 3)) ∧ w = w' := by
 go_enter Tryz.func65, Tryz.ntmps65
 go_wp2_with (go_at_call 86; refine (between_any _ _ _ _).mono ?_; rintro e w' ⟨rfl, rfl⟩)
 go_ret
 exact ⟨rfl, rfl⟩
theorem turn_any (k : Int) (w : World) (hT0 : Tn w) (hk : rangeB k 0 3 = false) : Calls Tryz.prog 67 #[.int .i64 k] w fun e w' => e = .returned (.agg #[.int .i64 (iR k), .int .i64 (iI k)]) ∧ Below w.heap.size w w' := by
 have hT := Lib.hid hT0
 clear hT0
 unfold rangeB at hk
 simp only [Bool.or_eq_false_iff, decide_eq_false_iff_not] at hk
 rcases (show k = 0 ∨ k = 1 ∨ k = 2 ∨ k = 3 by omega) with rfl | rfl | rfl | rfl
 · have c0 := hT.out 0 (1) rfl; have c1 := hT.out 1 (0) rfl
   have hbt : bits BinOp.and IntKind.i64 0 3 = 0 := by first | rfl | decide
   clear hT
   go_enter Tryz.func67, Tryz.ntmps67
   go_upto_region 1 with fail
   refine genT (fun V => Row V (w.heap.size) 23 [.int .i64 0, .int .i64 0] ∧ Below w.heap.size w V) ⟨(rowAt _ _ (by first | rfl | simp only [World.size_alloc])), ((Below.refl _ _).alloc (by first | exact Nat.le_refl _ | (simp only [World.size_alloc]; omega)) _)⟩ ?_
   intro W1 s1
   have HS1 := Lib.hid s1
   clear s1
   have c0' := keepT c0 HS1.out.2; have c1' := keepT c1 HS1.out.2
   go_wp2_with (refine wpList_store_row rfl 23 _ _ rfl (w.heap.size) #[.int .i64 (1), .int .i64 (0)] rfl rfl 23 _ HS1.out.1 ?_ ?_ ?_ ?_; (kernel_rfl); (rfl); (simp [Value.oneCell']))
   refine bodyPost_ret (results_rowA rfl _ _ (w.heap.size) 23 #[.int .i64 (1), .int .i64 (0)] (0, 0) _ rfl (HS1.out.1.setRow [.int .i64 (1), .int .i64 (0)]) Tryz.underlying23 rfl (by kernel_rfl)) rfl ⟨rfl, Below.setRow HS1.out.2 (by omega) _⟩
 · have c0 := hT.out 2 (0) rfl; have c1 := hT.out 3 (1) rfl
   have hbt : bits BinOp.and IntKind.i64 1 3 = 1 := by first | rfl | decide
   clear hT
   go_enter Tryz.func67, Tryz.ntmps67
   go_upto_region 1 with fail
   refine genT (fun V => Row V (w.heap.size) 23 [.int .i64 0, .int .i64 0] ∧ Below w.heap.size w V) ⟨(rowAt _ _ (by first | rfl | simp only [World.size_alloc])), ((Below.refl _ _).alloc (by first | exact Nat.le_refl _ | (simp only [World.size_alloc]; omega)) _)⟩ ?_
   intro W1 s1
   have HS1 := Lib.hid s1
   clear s1
   have c0' := keepT c0 HS1.out.2; have c1' := keepT c1 HS1.out.2
   go_wp2_with (refine wpList_store_row rfl 23 _ _ rfl (w.heap.size) #[.int .i64 (0), .int .i64 (1)] rfl rfl 23 _ HS1.out.1 ?_ ?_ ?_ ?_; (kernel_rfl); (rfl); (simp [Value.oneCell']))
   refine bodyPost_ret (results_rowA rfl _ _ (w.heap.size) 23 #[.int .i64 (0), .int .i64 (1)] (0, 0) _ rfl (HS1.out.1.setRow [.int .i64 (0), .int .i64 (1)]) Tryz.underlying23 rfl (by kernel_rfl)) rfl ⟨rfl, Below.setRow HS1.out.2 (by omega) _⟩
 · have c0 := hT.out 4 (-1) rfl; have c1 := hT.out 5 (0) rfl
   have hbt : bits BinOp.and IntKind.i64 2 3 = 2 := by first | rfl | decide
   clear hT
   go_enter Tryz.func67, Tryz.ntmps67
   go_upto_region 1 with fail
   refine genT (fun V => Row V (w.heap.size) 23 [.int .i64 0, .int .i64 0] ∧ Below w.heap.size w V) ⟨(rowAt _ _ (by first | rfl | simp only [World.size_alloc])), ((Below.refl _ _).alloc (by first | exact Nat.le_refl _ | (simp only [World.size_alloc]; omega)) _)⟩ ?_
   intro W1 s1
   have HS1 := Lib.hid s1
   clear s1
   have c0' := keepT c0 HS1.out.2; have c1' := keepT c1 HS1.out.2
   go_wp2_with (refine wpList_store_row rfl 23 _ _ rfl (w.heap.size) #[.int .i64 (-1), .int .i64 (0)] rfl rfl 23 _ HS1.out.1 ?_ ?_ ?_ ?_; (kernel_rfl); (rfl); (simp [Value.oneCell']))
   refine bodyPost_ret (results_rowA rfl _ _ (w.heap.size) 23 #[.int .i64 (-1), .int .i64 (0)] (0, 0) _ rfl (HS1.out.1.setRow [.int .i64 (-1), .int .i64 (0)]) Tryz.underlying23 rfl (by kernel_rfl)) rfl ⟨rfl, Below.setRow HS1.out.2 (by omega) _⟩
 · have c0 := hT.out 6 (0) rfl; have c1 := hT.out 7 (-1) rfl
   have hbt : bits BinOp.and IntKind.i64 3 3 = 3 := by first | rfl | decide
   clear hT
   go_enter Tryz.func67, Tryz.ntmps67
   go_upto_region 1 with fail
   refine genT (fun V => Row V (w.heap.size) 23 [.int .i64 0, .int .i64 0] ∧ Below w.heap.size w V) ⟨(rowAt _ _ (by first | rfl | simp only [World.size_alloc])), ((Below.refl _ _).alloc (by first | exact Nat.le_refl _ | (simp only [World.size_alloc]; omega)) _)⟩ ?_
   intro W1 s1
   have HS1 := Lib.hid s1
   clear s1
   have c0' := keepT c0 HS1.out.2; have c1' := keepT c1 HS1.out.2
   go_wp2_with (refine wpList_store_row rfl 23 _ _ rfl (w.heap.size) #[.int .i64 (0), .int .i64 (-1)] rfl rfl 23 _ HS1.out.1 ?_ ?_ ?_ ?_; (kernel_rfl); (rfl); (simp [Value.oneCell']))
   refine bodyPost_ret (results_rowA rfl _ _ (w.heap.size) 23 #[.int .i64 (0), .int .i64 (-1)] (0, 0) _ rfl (HS1.out.1.setRow [.int .i64 (0), .int .i64 (-1)]) Tryz.underlying23 rfl (by kernel_rfl)) rfl ⟨rfl, Below.setRow HS1.out.2 (by omega) _⟩
theorem iRI (k : Int) : Gs (iR k) (iI k) := by unfold Gs iR iI; constructor <;> (split <;> (first | decide | (split <;> decide)))
def resV (l : List Int) (e : Int) : List Value := if e = 0 then ints l else ints [0, 0, 0, 0, 0, 0]
theorem resV_six (a b c d x y e : Int) : ∃ r1 r2 r3 r4 r5 r6 : Int, resV [a, b, c, d, x, y] e = [.int .i64 r1, .int .i64 r2, .int .i64 r3, .int .i64 r4, .int .i64 r5, .int .i64 r6] := by
 unfold resV
 split
 · exact ⟨a, b, c, d, x, y, rfl⟩
 · exact ⟨0, 0, 0, 0, 0, 0, rfl⟩
theorem bigE_zero {e : Int} (h : bigE e = 0) : e = 0 := by
 unfold bigE at h
 split at h
 · cases h
 · exact h
theorem result_any (a b c d x y : Int) (w : World) : Calls Tryz.prog 70 #[.agg #[.int .i64 a, .int .i64 b, .int .i64 c, .int .i64 d, .int .i64 x, .int .i64 y]] w fun e w' => e = .returned (.tuple #[.agg (resV [a, b, c, d, x, y] (bigE (sigE a b c d x y))).toArray, .int .i64 (bigE (sigE a b c d x y))]) ∧ Below w.heap.size w w' := by
 by_cases h : bigE (sigE a b c d x y) = 0
 · have h0 := bigE_zero h
   rw [h, resV, if_pos rfl]
   exact result_ok a b c d x y w h0
 · rw [resV, if_neg h]
   exact result_bad a b c d x y _ w rfl h
theorem cell_farT {w : World} {g g' i : Nat} (cs : Array Value) (h : g ≠ g') : (w.setRow g' cs).cell? ⟨g, i, none⟩ = w.cell? ⟨g, i, none⟩ := by
 simp only [World.cell?, setRow_other w g' cs g h]
theorem tnSet {w : World} {g : Nat} (h : Tn w) (hg : 0 < g) (cs : Array Value) : Tn (w.setRow g cs) := fun j v hv => by
 have h1 := h j v hv
 rw [cell_farT cs (show 0 ≠ g by omega)]
 exact h1
set_option maxRecDepth 100000 in
set_option maxHeartbeats 1000000 in
theorem turned_ok (a b c d x y k : Int) (w : World) (hT : Tn w) (hE : firstI [sigE a b c d x y, whenI (rangeB k 0 3) 3] = 0) : Calls Tryz.prog 24 #[.agg #[.int .i64 a, .int .i64 b, .int .i64 c, .int .i64 d, .int .i64 x, .int .i64 y], .int .i64 k] w fun e w' => e = .returned (.tuple #[.agg #[.int .i64 (a * iR k - b * iI k), .int .i64 (a * iI k + b * iR k), .int .i64 (c * iR k - d * iI k), .int .i64 (c * iI k + d * iR k), .int .i64 (x * iR k - y * iI k), .int .i64 (x * iI k + y * iR k)], .int .i64 0]) ∧ Below w.heap.size w w' := by
 obtain ⟨hs, hk⟩ := fI2 hE
 have hg := sig_good hs
 have hk := whenZ (by decide) hk
 obtain ⟨E, hE0, hE⟩ : ∃ E : Int, E = 0 ∧ firstI [sigE a b c d x y, whenI (rangeB k 0 3) 3] = E := ⟨0, rfl, hE⟩
 obtain ⟨E1, hE1⟩ : ∃ E1, E1 = sigE a b c d x y := ⟨_, rfl⟩
 obtain ⟨zk, hzk⟩ : ∃ zk, zk = whenI (rangeB k 0 3) 3 := ⟨_, rfl⟩
 rw [← hE1, ← hzk] at hE
 have HF : Hid (firstI [E1, zk] = E) := hE
 have HC : Hid (∀ W, Calls Tryz.prog 44 #[.agg #[.int .i64 a, .int .i64 b, .int .i64 c, .int .i64 d, .int .i64 x, .int .i64 y]] W fun e w' => e = .returned (.int .i64 E1) ∧ Below W.heap.size W w') := fun W => by rw [hE1]; exact checkSignal_any a b c d x y W
 have HK : Hid (∀ W, Calls Tryz.prog 65 #[.int .i64 k] W fun e w' => e = .returned (.int .i64 zk) ∧ W = w') := fun W => by rw [hzk]; exact checkTurns_any k W
 obtain ⟨p1, hp1⟩ : ∃ p, p = a * iR k - b * iI k := ⟨_, rfl⟩
 obtain ⟨p2, hp2⟩ : ∃ p, p = a * iI k + b * iR k := ⟨_, rfl⟩
 obtain ⟨p3, hp3⟩ : ∃ p, p = c * iR k - d * iI k := ⟨_, rfl⟩
 obtain ⟨p4, hp4⟩ : ∃ p, p = c * iI k + d * iR k := ⟨_, rfl⟩
 obtain ⟨p5, hp5⟩ : ∃ p, p = x * iR k - y * iI k := ⟨_, rfl⟩
 obtain ⟨p6, hp6⟩ : ∃ p, p = x * iI k + y * iR k := ⟨_, rfl⟩
 have HM : Hid (∀ W, Calls Tryz.prog 66 #[.agg #[.int .i64 a, .int .i64 b, .int .i64 c, .int .i64 d, .int .i64 x, .int .i64 y], .agg #[.int .i64 (iR k), .int .i64 (iI k)], .agg #[.int .i64 (iR k), .int .i64 (iI k)]] W fun e w' => e = .returned (.agg #[.int .i64 p1, .int .i64 p2, .int .i64 p3, .int .i64 p4, .int .i64 p5, .int .i64 p6]) ∧ Below W.heap.size W w') := fun W => by rw [hp1, hp2, hp3, hp4, hp5, hp6]; exact mulS_any a b c d x y (iR k) (iI k) (iR k) (iI k) W hg.g1 hg.g2 hg.g3 (iRI k) (iRI k)
 rw [← hp1, ← hp2, ← hp3, ← hp4, ← hp5, ← hp6]
 have HTU : Hid (∀ W, Tn W → Calls Tryz.prog 67 #[.int .i64 k] W fun e w' => e = .returned (.agg #[.int .i64 (iR k), .int .i64 (iI k)]) ∧ Below W.heap.size W w') := fun W h => turn_any k W h hk
 obtain ⟨u, hu⟩ : ∃ u, u = iR k := ⟨_, rfl⟩
 obtain ⟨v, hv⟩ : ∃ v, v = iI k := ⟨_, rfl⟩
 rw [← hu, ← hv] at HM HTU
 subst hE0
 clear hE hE1 hzk hs hg hk hp1 hp2 hp3 hp4 hp5 hp6 hu hv
 go_enter Tryz.func24, Tryz.ntmps24
 go_upto_region 1 with fail
 refine genT (fun V => Row V (w.heap.size) 35 [.int .i64 a, .int .i64 b, .int .i64 c, .int .i64 d, .int .i64 x, .int .i64 y] ∧ Row V (w.heap.size + 1) 35 [.int .i64 0, .int .i64 0, .int .i64 0, .int .i64 0, .int .i64 0, .int .i64 0] ∧ Tn V ∧ Below w.heap.size w V) ⟨(Row.alloc (rowAt _ _ (by first | rfl | simp only [World.size_alloc])) _), (rowAt _ _ (by first | rfl | simp only [World.size_alloc])), hT.old (((Below.refl _ _).alloc (by first | exact Nat.le_refl _ | (simp only [World.size_alloc]; omega)) _).alloc (by first | exact Nat.le_refl _ | (simp only [World.size_alloc]; omega)) _), (((Below.refl _ _).alloc (by first | exact Nat.le_refl _ | (simp only [World.size_alloc]; omega)) _).alloc (by first | exact Nat.le_refl _ | (simp only [World.size_alloc]; omega)) _)⟩ ?_
 intro W1 s1
 have HS1 := Lib.hid s1
 clear s1 hT
 go_upto_region 4 with (first | (refine wpList_load_row rfl 35 _ rfl (w.heap.size) rfl 35 #[.int .i64 a, .int .i64 b, .int .i64 c, .int .i64 d, .int .i64 x, .int .i64 y] (0, 0) _ HS1.out.1 Tryz.underlying35 rfl ?_ ?_; (kernel_rfl)) | (go_at_call 44; refine (HC.out _).mono ?_; rintro e w2 ⟨rfl, hb_w2⟩; have HS2 : Hid (Row w2 (w.heap.size) 35 [.int .i64 a, .int .i64 b, .int .i64 c, .int .i64 d, .int .i64 x, .int .i64 y] ∧ Row w2 (w.heap.size + 1) 35 [.int .i64 0, .int .i64 0, .int .i64 0, .int .i64 0, .int .i64 0, .int .i64 0] ∧ Tn w2 ∧ Below w.heap.size w w2) := ⟨(HS1.out.1).old hb_w2, (HS1.out.2.1).old hb_w2, (HS1.out.2.2.1).old hb_w2, (HS1.out.2.2.2).trans (hb_w2.mono (HS1.out.2.2.2).size)⟩; clear hb_w2) | (go_at_call 65; refine (HK.out _).mono ?_; rintro e w3 ⟨rfl, rfl⟩) | (go_at_call 64; refine (firstV_any _ _ _ [E1, zk] _ ?_ rfl (by simp)).mono ?_; exact Rd.newT (t := 32); rintro e w9 ⟨rfl, rfl⟩; rw [HF.out]; have HS3 := Lib.hid (⟨(HS2.out.1).old ((Below.refl _ _).alloc (Nat.le_refl _) _), (HS2.out.2.1).old ((Below.refl _ _).alloc (Nat.le_refl _) _), (HS2.out.2.2.1).old ((Below.refl _ _).alloc (Nat.le_refl _) _), (HS2.out.2.2.2).trans (((Below.refl _ _).alloc (Nat.le_refl _) _).mono (HS2.out.2.2.2).size)⟩ : Row (w2.alloc (.cells #[.int .i64 E1, .int .i64 zk] 32)) (w.heap.size) 35 [.int .i64 a, .int .i64 b, .int .i64 c, .int .i64 d, .int .i64 x, .int .i64 y] ∧ Row (w2.alloc (.cells #[.int .i64 E1, .int .i64 zk] 32)) (w.heap.size + 1) 35 [.int .i64 0, .int .i64 0, .int .i64 0, .int .i64 0, .int .i64 0, .int .i64 0] ∧ Tn (w2.alloc (.cells #[.int .i64 E1, .int .i64 zk] 32)) ∧ Below w.heap.size w (w2.alloc (.cells #[.int .i64 E1, .int .i64 zk] 32)))))
 refine genT (fun V => Row V (w.heap.size) 35 [.int .i64 a, .int .i64 b, .int .i64 c, .int .i64 d, .int .i64 x, .int .i64 y] ∧ RowN V (w.heap.size + 1) 35 6 ∧ Tn V ∧ Below w.heap.size w V) ⟨HS3.out.1, ⟨_, rfl, HS3.out.2.1⟩, HS3.out.2.2.1, HS3.out.2.2.2⟩ ?_
 clear HS1 HS2 HS3 HC HK HF
 intro W4 s4
 have HS4 := Lib.hid s4
 clear s4
 refine wp_region_held_drew (S := fun V => Row V (w.heap.size) 35 [.int .i64 a, .int .i64 b, .int .i64 c, .int .i64 d, .int .i64 x, .int .i64 y] ∧ RowN V (w.heap.size + 1) 35 6 ∧ Tn V ∧ Below w.heap.size w V) (by kernel_rfl) ?_ (fun hHeld => ?_)
 · exact ⟨(HS4.out.1).drew, (HS4.out.2.1).drew, (HS4.out.2.2.1).drew, (HS4.out.2.2.2).drew⟩
 refine tk 0 17 (.agg #[.int .i64 a, .int .i64 b, .int .i64 c, .int .i64 d, .int .i64 x, .int .i64 y]) rfl (by kernel_rfl) (fun _ _ _ h => h) (by kernel_rfl) (fun V hV => ex_rowT 35 _ rfl (w.heap.size) rfl 35 [.int .i64 a, .int .i64 b, .int .i64 c, .int .i64 d, .int .i64 x, .int .i64 y] _ Tryz.underlying35 rfl (by kernel_rfl) (hV.1)) hHeld ?_
 try simp only [zz]
 refine ta 1 18 hHeld ?_
 try simp only [zz]
 refine ta 3 20 hHeld ?_
 try simp only [zz]
 refine st2 2 (fun K hK => ?_)
 go_simp
 go_at_call 67
 refine (HTU.out _ (hHeld.2.2.1)).mono ?_
 rintro e v2 ⟨rfl, hb2⟩
 try go_simp
 refine hK.out _ _ ?_ (fun hHeld => ?_)
 · exact ⟨(hHeld.1).old hb2, (hHeld.2.1).old hb2, (hHeld.2.2.1).old hb2, (hHeld.2.2.2).trans ((hb2).mono (hHeld.2.2.2).size)⟩
 clear hK K
 try simp only [zz]
 refine st2 4 (fun K hK => ?_)
 go_simp
 go_at_call 67
 refine (HTU.out _ (hHeld.2.2.1)).mono ?_
 rintro e v4 ⟨rfl, hb4⟩
 try go_simp
 refine hK.out _ _ ?_ (fun hHeld => ?_)
 · exact ⟨(hHeld.1).old hb4, (hHeld.2.1).old hb4, (hHeld.2.2.1).old hb4, (hHeld.2.2.2).trans ((hb4).mono (hHeld.2.2.2).size)⟩
 clear hK K
 try simp only [zz]
 refine st2 5 (fun K hK => ?_)
 go_simp
 go_at_call 66
 refine (HM.out _).mono ?_
 rintro e v5 ⟨rfl, hb5⟩
 try go_simp
 refine hK.out _ _ ?_ (fun hHeld => ?_)
 · exact ⟨(hHeld.1).old hb5, (hHeld.2.1).old hb5, (hHeld.2.2.1).old hb5, (hHeld.2.2.2).trans ((hb5).mono (hHeld.2.2.2).size)⟩
 clear hK K
 try simp only [zz]
 refine st2 6 (fun K hK => ?_)
 obtain ⟨vs, hvl, hvr⟩ := (hHeld.2.1)
 have hLast := hHeld
 refine step_store_row rfl 35 _ _ rfl (w.heap.size + 1) [.int .i64 p1, .int .i64 p2, .int .i64 p3, .int .i64 p4, .int .i64 p5, .int .i64 p6] rfl rfl 35 vs hvr (by kernel_rfl) hvl (by simp [Value.oneCell']) ?_
 refine hK.out _ _ ?_ (fun hHeld => ?_)
 · exact ⟨(hHeld.1).farRow (by omega) _, ⟨_, rfl, hvr.setRow _⟩, tnSet hHeld.2.2.1 (by omega) _, Below.setRow (hHeld.2.2.2) (by omega) _⟩
 clear hK K
 try simp only [zz]
 refine ta 7 5 hHeld ?_
 try simp only [zz]
 refine wpAnyH_done (by kernel_rfl) ?_ _
 go_wp2_with fail
 refine bodyPost_ret (results_rt rfl _ _ (w.heap.size + 1) 35 #[.int .i64 p1, .int .i64 p2, .int .i64 p3, .int .i64 p4, .int .i64 p5, .int .i64 p6] (0, 0) _ rfl (hvr.setRow [.int .i64 p1, .int .i64 p2, .int .i64 p3, .int .i64 p4, .int .i64 p5, .int .i64 p6]) Tryz.underlying35 rfl (by kernel_rfl)) rfl ⟨rfl, Below.setRow hLast.2.2.2 (by omega) _⟩

set_option maxRecDepth 100000
set_option maxHeartbeats 1000000
theorem firstI_left (l : List Int) (k : List Int) : firstI (firstI l :: k) = firstI (l ++ k) := by
 induction l with
 | nil => rfl
 | cons x l ih =>
   by_cases h : x = 0
   · subst h
     have e1 : firstI (0 :: l) = firstI l := by rw [firstI, if_pos rfl]
     have e2 : firstI (0 :: (l ++ k)) = firstI (l ++ k) := by rw [firstI, if_pos rfl]
     rw [e1, List.cons_append, e2]
     exact ih
   · have e1 : firstI (x :: l) = x := by rw [firstI, if_neg h]
     rw [e1, List.cons_append, firstI, if_neg h, firstI, if_neg h]
theorem sigE_ref (a b c d x y : Int) : firstI [partE 10000 (a, b), partE 10000 (c, d), partE 10000 (x, y), whenI (a == 0 && b == 0) 6] = sigE a b c d x y := by
 unfold sigE
 rw [firstI_left]
 rfl
theorem checkPartR_any (a b M : Int) (w : World) (hM : M.natAbs ≤ 1000000) : Calls Tryz.prog 97 #[.agg #[.int .i64 a, .int .i64 b], .int .i64 M] w fun e w' => e = .returned (.int .i64 (partE M (a, b))) ∧ Below w.heap.size w w' := by
 have e1 : IntKind.i64.wrap (-M) = -M := IntWalk.i64_in _ (by omega)
 have e2 : IntKind.i64.wrap (0 - M) = -M := by rw [Int.zero_sub]; exact e1
 clear hM
 go_enter Tryz.func97, Tryz.ntmps97
 go_upto_region 1 with fail
 refine genT (fun V => Row V (w.heap.size) 23 [.int .i64 a, .int .i64 b] ∧ Below w.heap.size w V) ⟨(rowAt _ _ (by first | rfl | simp only [World.size_alloc])), ((Below.refl _ _).alloc (by first | exact Nat.le_refl _ | (simp only [World.size_alloc]; omega)) _)⟩ ?_
 intro W1 s1
 have HS1 := Lib.hid s1
 clear s1
 refine wp_region_held_drew (S := fun V => Row V (w.heap.size) 23 [.int .i64 a, .int .i64 b] ∧ Below w.heap.size w V) (by kernel_rfl) ?_ (fun hHeld => ?_)
 · exact ⟨(HS1.out.1).drew, (HS1.out.2).drew⟩
 refine ta 0 5 hHeld ?_
 try simp only [zz]
 refine tk 1 6 ?_ rfl (by kernel_rfl) (fun _ _ _ h => h) (by kernel_rfl) ?_ hHeld ?_
 rotate_left
 · intro w1 hSw; (try dsimp only at hSw); have cc := (hSw.1).cell 0; simp only [List.getElem?_cons_succ, List.getElem?_cons_zero] at cc; go_simp <;> with_reducible rfl
 try simp only [zz]
 refine ta 2 7 hHeld ?_
 try simp only [zz]
 refine ta 3 8 hHeld ?_
 try simp only [zz]
 refine ta 4 9 hHeld ?_
 try simp only [zz]
 refine ta 6 11 hHeld ?_
 try simp only [zz]
 refine tk 7 12 ?_ rfl (by kernel_rfl) (fun _ _ _ h => h) (by kernel_rfl) ?_ hHeld ?_
 rotate_left
 · intro w1 hSw; (try dsimp only at hSw); have cc := (hSw.1).cell 1; simp only [List.getElem?_cons_succ, List.getElem?_cons_zero] at cc; go_simp <;> with_reducible rfl
 try simp only [zz]
 refine ta 8 13 hHeld ?_
 try simp only [zz]
 refine ta 9 14 hHeld ?_
 try simp only [zz]
 refine ta 10 15 hHeld ?_
 try simp only [zz]
 refine st2 5 (fun K hK => ?_)
 go_simp
 go_at_call 120
 refine (checkRange_any a (-M) M _).mono ?_
 rintro e v5 ⟨rfl, rfl⟩
 try go_simp
 refine hK.out _ _ ?_ (fun hHeld => ?_)
 · exact hHeld
 clear hK K
 try simp only [zz]
 refine st2 11 (fun K hK => ?_)
 go_simp
 go_at_call 120
 refine (checkRange_any b (-M) M _).mono ?_
 rintro e v11 ⟨rfl, rfl⟩
 try go_simp
 refine hK.out _ _ ?_ (fun hHeld => ?_)
 · exact hHeld
 clear hK K
 try simp only [zz]
 refine st2 12 (fun K hK => ?_)
 go_simp
 refine hK.out _ _ ?_ (fun hHeld => ?_)
 · exact ⟨(hHeld.1).old ((Below.refl _ _).alloc (Nat.le_refl _) _), (hHeld.2).trans ((((Below.refl _ _).alloc (Nat.le_refl _) _)).mono (hHeld.2).size)⟩
 clear hK K
 try simp only [zz]
 refine st2 13 (fun K hK => ?_)
 go_simp
 go_at_call 71
 refine (first_any _ _ _ [whenI (rangeB a (-M) M) 3, whenI (rangeB b (-M) M) 3] _ ?_ rfl (by simp)).mono ?_
 · exact Rd.newT (t := 3)
 rintro e v99 ⟨rfl, rfl⟩
 try go_simp
 refine hK.out _ _ ?_ (fun hHeld => ?_)
 · exact hHeld
 clear hK K
 try simp only [zz]
 refine ta 14 4 hHeld ?_
 try simp only [zz]
 refine wpAnyH_done (by kernel_rfl) ?_ _
 go_wp2_with fail
 go_ret
 exact ⟨rfl, hHeld.2⟩
theorem zeroR_any (a b : Int) (w : World) : Calls Tryz.prog 98 #[.agg #[.int .i64 a, .int .i64 b]] w fun e w' => e = .returned (.bool (a == 0 && b == 0)) ∧ Below w.heap.size w w' := by
 by_cases ha : a = 0
 · have h1 : (a == 0) = true := by simpa using ha
   clear ha
   go_enter Tryz.func98, Tryz.ntmps98
   go_upto_region 1 with fail
   refine genT (fun V => Row V (w.heap.size) 23 [.int .i64 a, .int .i64 b] ∧ Below w.heap.size w V) ⟨(rowAt _ _ (by first | rfl | simp only [World.size_alloc])), ((Below.refl _ _).alloc (by first | exact Nat.le_refl _ | (simp only [World.size_alloc]; omega)) _)⟩ ?_
   intro W1 s1
   have HS1 := Lib.hid s1
   clear s1
   have c0 := HS1.out.1.cell 0; have c1 := HS1.out.1.cell 1
   simp only [List.getElem?_cons_succ, List.getElem?_cons_zero] at c0 c1
   go_wp2_with fail
   go_ret
   exact ⟨by rw [h1]; first | rfl | simp, HS1.out.2⟩
 · have h1 : (a == 0) = false := by simpa using ha
   clear ha
   go_enter Tryz.func98, Tryz.ntmps98
   go_upto_region 1 with fail
   refine genT (fun V => Row V (w.heap.size) 23 [.int .i64 a, .int .i64 b] ∧ Below w.heap.size w V) ⟨(rowAt _ _ (by first | rfl | simp only [World.size_alloc])), ((Below.refl _ _).alloc (by first | exact Nat.le_refl _ | (simp only [World.size_alloc]; omega)) _)⟩ ?_
   intro W1 s1
   have HS1 := Lib.hid s1
   clear s1
   have c0 := HS1.out.1.cell 0; have c1 := HS1.out.1.cell 1
   simp only [List.getElem?_cons_succ, List.getElem?_cons_zero] at c0 c1
   go_wp2_with fail
   go_ret
   exact ⟨by rw [h1]; rfl, HS1.out.2⟩
theorem checkSignalR_any (a b c d x y : Int) (w : World) : Calls Tryz.prog 43 #[.agg #[.int .i64 a, .int .i64 b, .int .i64 c, .int .i64 d, .int .i64 x, .int .i64 y]] w fun e w' => e = .returned (.int .i64 (sigE a b c d x y)) ∧ Below w.heap.size w w' := by
 rw [← sigE_ref]
 obtain ⟨P1, hP1⟩ : ∃ P, P = partE 10000 (a, b) := ⟨_, rfl⟩
 obtain ⟨P2, hP2⟩ : ∃ P, P = partE 10000 (c, d) := ⟨_, rfl⟩
 obtain ⟨P3, hP3⟩ : ∃ P, P = partE 10000 (x, y) := ⟨_, rfl⟩
 obtain ⟨zb, hzb⟩ : ∃ zb, zb = (a == 0 && b == 0) := ⟨_, rfl⟩
 have HC1 : Hid (∀ W, Calls Tryz.prog 97 #[.agg #[.int .i64 a, .int .i64 b], .int .i64 10000] W fun e w' => e = .returned (.int .i64 P1) ∧ Below W.heap.size W w') := fun W => by rw [hP1]; exact checkPartR_any a b 10000 W (by decide)
 have HC2 : Hid (∀ W, Calls Tryz.prog 97 #[.agg #[.int .i64 c, .int .i64 d], .int .i64 10000] W fun e w' => e = .returned (.int .i64 P2) ∧ Below W.heap.size W w') := fun W => by rw [hP2]; exact checkPartR_any c d 10000 W (by decide)
 have HC3 : Hid (∀ W, Calls Tryz.prog 97 #[.agg #[.int .i64 x, .int .i64 y], .int .i64 10000] W fun e w' => e = .returned (.int .i64 P3) ∧ Below W.heap.size W w') := fun W => by rw [hP3]; exact checkPartR_any x y 10000 W (by decide)
 have HZ : Hid (∀ W, Calls Tryz.prog 98 #[.agg #[.int .i64 a, .int .i64 b]] W fun e w' => e = .returned (.bool zb) ∧ Below W.heap.size W w') := fun W => by rw [hzb]; exact zeroR_any a b W
 rw [← hP1, ← hP2, ← hP3, ← hzb]
 clear hP1 hP2 hP3 hzb
 go_enter Tryz.func43, Tryz.ntmps43
 go_upto_region 1 with fail
 refine genT (fun V => Row V (w.heap.size) 25 [.int .i64 a, .int .i64 b, .int .i64 c, .int .i64 d, .int .i64 x, .int .i64 y] ∧ Below w.heap.size w V) ⟨(rowAt _ _ (by first | rfl | simp only [World.size_alloc])), ((Below.refl _ _).alloc (by first | exact Nat.le_refl _ | (simp only [World.size_alloc]; omega)) _)⟩ ?_
 intro W1 s1
 have HS1 := Lib.hid s1
 clear s1
 refine wp_region_held_drew (S := fun V => Row V (w.heap.size) 25 [.int .i64 a, .int .i64 b, .int .i64 c, .int .i64 d, .int .i64 x, .int .i64 y] ∧ Below w.heap.size w V) (by kernel_rfl) ?_ (fun hHeld => ?_)
 · exact ⟨(HS1.out.1).drew, (HS1.out.2).drew⟩
 refine ta 0 3 hHeld ?_
 try simp only [zz]
 refine tk 1 4 (.agg #[.int .i64 a, .int .i64 b]) rfl (by kernel_rfl) (fun _ _ _ h => h) (by kernel_rfl) (fun V hV => ex_Gauss _ rfl (w.heap.size) 0 rfl ((hV.1).cell 0) ((hV.1).cell 1)) hHeld ?_
 try simp only [zz]
 refine ta 3 6 hHeld ?_
 try simp only [zz]
 refine tk 4 7 (.agg #[.int .i64 c, .int .i64 d]) rfl (by kernel_rfl) (fun _ _ _ h => h) (by kernel_rfl) (fun V hV => ex_Gauss _ rfl (w.heap.size) 2 rfl ((hV.1).cell 2) ((hV.1).cell 3)) hHeld ?_
 try simp only [zz]
 refine ta 6 9 hHeld ?_
 try simp only [zz]
 refine tk 7 10 (.agg #[.int .i64 x, .int .i64 y]) rfl (by kernel_rfl) (fun _ _ _ h => h) (by kernel_rfl) (fun V hV => ex_Gauss _ rfl (w.heap.size) 4 rfl ((hV.1).cell 4) ((hV.1).cell 5)) hHeld ?_
 try simp only [zz]
 refine ta 9 12 hHeld ?_
 try simp only [zz]
 refine tk 10 13 (.agg #[.int .i64 a, .int .i64 b]) rfl (by kernel_rfl) (fun _ _ _ h => h) (by kernel_rfl) (fun V hV => ex_Gauss _ rfl (w.heap.size) 0 rfl ((hV.1).cell 0) ((hV.1).cell 1)) hHeld ?_
 try simp only [zz]
 refine st2 2 (fun K hK => ?_)
 go_simp
 go_at_call 97
 refine (HC1.out _).mono ?_
 rintro e v2 ⟨rfl, hb2⟩
 try go_simp
 refine hK.out _ _ ?_ (fun hHeld => ?_)
 · exact ⟨(hHeld.1).old hb2, (hHeld.2).trans ((hb2).mono (hHeld.2).size)⟩
 clear hK K
 try simp only [zz]
 refine st2 5 (fun K hK => ?_)
 go_simp
 go_at_call 97
 refine (HC2.out _).mono ?_
 rintro e v5 ⟨rfl, hb5⟩
 try go_simp
 refine hK.out _ _ ?_ (fun hHeld => ?_)
 · exact ⟨(hHeld.1).old hb5, (hHeld.2).trans ((hb5).mono (hHeld.2).size)⟩
 clear hK K
 try simp only [zz]
 refine st2 8 (fun K hK => ?_)
 go_simp
 go_at_call 97
 refine (HC3.out _).mono ?_
 rintro e v8 ⟨rfl, hb8⟩
 try go_simp
 refine hK.out _ _ ?_ (fun hHeld => ?_)
 · exact ⟨(hHeld.1).old hb8, (hHeld.2).trans ((hb8).mono (hHeld.2).size)⟩
 clear hK K
 try simp only [zz]
 refine st2 11 (fun K hK => ?_)
 go_simp
 go_at_call 98
 refine (HZ.out _).mono ?_
 rintro e v11 ⟨rfl, hb11⟩
 try go_simp
 refine hK.out _ _ ?_ (fun hHeld => ?_)
 · exact ⟨(hHeld.1).old hb11, (hHeld.2).trans ((hb11).mono (hHeld.2).size)⟩
 clear hK K
 try simp only [zz]
 refine st2 12 (fun K hK => ?_)
 go_simp
 go_at_call 72
 refine (when_any zb 6 _).mono ?_
 rintro e v12 ⟨rfl, rfl⟩
 try go_simp
 refine hK.out _ _ ?_ (fun hHeld => ?_)
 · exact hHeld
 clear hK K
 try simp only [zz]
 refine st2 13 (fun K hK => ?_)
 go_simp
 refine hK.out _ _ ?_ (fun hHeld => ?_)
 · exact ⟨(hHeld.1).old ((Below.refl _ _).alloc (Nat.le_refl _) _), (hHeld.2).trans ((((Below.refl _ _).alloc (Nat.le_refl _) _)).mono (hHeld.2).size)⟩
 clear hK K
 try simp only [zz]
 refine st2 14 (fun K hK => ?_)
 go_simp
 go_at_call 71
 refine (first_any _ _ _ [P1, P2, P3, whenI zb 6] _ ?_ rfl (by simp)).mono ?_
 · exact Rd.newT (t := 3)
 rintro e v99 ⟨rfl, rfl⟩
 try go_simp
 refine hK.out _ _ ?_ (fun hHeld => ?_)
 · exact hHeld
 clear hK K
 try simp only [zz]
 refine ta 15 2 hHeld ?_
 try simp only [zz]
 refine wpAnyH_done (by kernel_rfl) ?_ _
 go_wp2_with fail
 go_ret
 exact ⟨rfl, hHeld.2⟩
set_option maxRecDepth 100000
set_option maxHeartbeats 1000000
theorem floor_eq {n d : Int} (hd : 0 < d) : (if n < n.tdiv d * d then n.tdiv d - 1 else n.tdiv d) = n / d := by
 by_cases hn : 0 ≤ n
 · have h1 : n.tdiv d = n / d := Int.tdiv_eq_ediv_of_nonneg hn
   have h2 : n / d * d ≤ n := Int.ediv_mul_le n (by omega)
   rw [h1, if_neg (by omega)]
 · have hm : 0 ≤ -n := by omega
   have h1 : n.tdiv d = -((-n) / d) := by
    have h := Int.neg_tdiv n d
    rw [← Int.tdiv_eq_ediv_of_nonneg hm, h, Int.neg_neg]
   obtain ⟨q, hq⟩ : ∃ q, q = (-n) / d := ⟨_, rfl⟩
   obtain ⟨r, hr⟩ : ∃ r, r = (-n) % d := ⟨_, rfl⟩
   have h3 : d * q + r = -n := by rw [hq, hr]; exact Int.mul_ediv_add_emod (-n) d
   have h4 : 0 ≤ r := by rw [hr]; exact Int.emod_nonneg _ (by omega)
   have h5 : r < d := by rw [hr]; exact Int.emod_lt_of_pos _ hd
   rw [h1, ← hq]
   have h6 : -q * d = -(d * q) := by rw [Int.neg_mul, Int.mul_comm]
   rw [h6]
   by_cases hz : r = 0
   · rw [if_neg (by omega)]
     have h7 : n = (-q) * d := by rw [h6]; omega
     rw [h7, Int.mul_ediv_cancel _ (by omega)]
   · rw [if_pos (by omega)]
     have h7 : n = (d - r) + (-q - 1) * d := by
      have : (-q - 1) * d = -(d * q) - d := by rw [Int.sub_mul, h6, Int.one_mul]
      omega
     have h8 : n / d = (d - r) / d + (-q - 1) := by
      conv => lhs; rw [h7]
      exact Int.add_mul_ediv_right _ _ (by omega)
     rw [h8, Int.ediv_eq_zero_of_lt (by omega) (by omega)]
     omega
theorem floor_any (n d : Int) (w : World) (hn : n.natAbs ≤ 1000000000000000000) (hd : 0 < d ∧ d ≤ 1000000000000000000) : Calls Tryz.prog 133 #[.int .i64 n, .int .i64 d] w fun e w' => e = .returned (.int .i64 (n / d)) ∧ w = w' := by
 have hf := floor_eq (n := n) hd.1
 obtain ⟨q, hq⟩ : ∃ q, q = n.tdiv d := ⟨_, rfl⟩
 rw [← hq] at hf
 have hqb : q.natAbs ≤ n.natAbs := by rw [hq, Int.natAbs_tdiv]; exact Nat.div_le_self _ _
 have hqd : (q * d).natAbs ≤ n.natAbs := by
  rw [hq, Int.natAbs_mul, Int.natAbs_tdiv]
  exact Nat.div_mul_le_self _ _
 have hne : ¬ d = 0 := by omega
 have hne2 : (d == 0) = false := by simpa using hne
 have e1 : IntKind.i64.wrap (n.tdiv d) = q := by rw [← hq]; exact IntWalk.i64_in _ (by omega)
 have e2 : IntKind.i64.wrap (q * d) = q * d := IntWalk.i64_in _ (by omega)
 have e3 : IntKind.i64.wrap (q - 1) = q - 1 := IntWalk.i64_in _ (by omega)
 have HF := Lib.hid hf
 by_cases hc : n < q * d
 · have HR : Hid (n / d = q - 1) := by unfold Hid; rw [← hf, if_pos hc]
   clear hf hq hqb hqd hn hd
   go_enter Tryz.func133, Tryz.ntmps133
   go_wp2_with fail
   go_ret
   exact ⟨by rw [HR.out]; rfl, rfl⟩
 · have HR : Hid (n / d = q) := by unfold Hid; rw [← hf, if_neg hc]
   clear hf hq hqb hqd hn hd
   go_enter Tryz.func133, Tryz.ntmps133
   go_wp2_with fail
   go_ret
   exact ⟨by rw [HR.out]; rfl, rfl⟩
theorem nearest_any (n d : Int) (w : World) (hn : n.natAbs ≤ 100000000000000000) (hd : 0 < d ∧ d ≤ 100000000000000000) : Calls Tryz.prog 165 #[.int .i64 n, .int .i64 d] w fun e w' => e = .returned (.int .i64 ((2 * n + d) / (2 * d))) ∧ w = w' := by
 have e1 : IntKind.i64.wrap (2 * n) = 2 * n := IntWalk.i64_in _ (by omega)
 have e2 : IntKind.i64.wrap (2 * n + d) = 2 * n + d := IntWalk.i64_in _ (by omega)
 have e3 : IntKind.i64.wrap (2 * d) = 2 * d := IntWalk.i64_in _ (by omega)
 have HF : Hid (∀ W, Calls Tryz.prog 133 #[.int .i64 (2 * n + d), .int .i64 (2 * d)] W fun e w' => e = .returned (.int .i64 ((2 * n + d) / (2 * d))) ∧ W = w') := fun W => floor_any _ _ W (by omega) (by omega)
 clear hn hd
 go_enter Tryz.func165, Tryz.ntmps165
 go_wp2_with (go_at_call 133; refine (HF.out _).mono ?_; rintro e w2 ⟨rfl, rfl⟩)
 go_ret
 exact ⟨rfl, rfl⟩
theorem floorQ_any (n d : Int) (w : World) (hn : n.natAbs ≤ 1000000000000000000) (hd : 0 < d ∧ d ≤ 1000000000000000000) : Calls Tryz.prog 87 #[.agg #[.int .i64 n, .int .i64 d]] w fun e w' => e = .returned (.int .i64 (n / d)) ∧ Below w.heap.size w w' := by
 have HF : Hid (∀ W, Calls Tryz.prog 133 #[.int .i64 n, .int .i64 d] W fun e w' => e = .returned (.int .i64 (n / d)) ∧ W = w') := fun W => floor_any _ _ W hn hd
 clear hn hd
 go_enter Tryz.func87, Tryz.ntmps87
 go_upto_region 1 with fail
 refine genT (fun V => Row V (w.heap.size) 141 [.int .i64 n, .int .i64 d] ∧ Below w.heap.size w V) ⟨(rowAt _ _ (by first | rfl | simp only [World.size_alloc])), ((Below.refl _ _).alloc (by first | exact Nat.le_refl _ | (simp only [World.size_alloc]; omega)) _)⟩ ?_
 intro W1 s1
 have HS1 := Lib.hid s1
 clear s1
 have c0 := HS1.out.1.cell 0; have c1 := HS1.out.1.cell 1
 simp only [List.getElem?_cons_succ, List.getElem?_cons_zero] at c0 c1
 go_wp2_with (go_at_call 133; refine (HF.out _).mono ?_; rintro e w2 ⟨rfl, rfl⟩)
 go_ret
 exact ⟨rfl, HS1.out.2⟩
theorem nearestQ_any (n d : Int) (w : World) (hn : n.natAbs ≤ 100000000000000000) (hd : 0 < d ∧ d ≤ 100000000000000000) : Calls Tryz.prog 137 #[.agg #[.int .i64 n, .int .i64 d]] w fun e w' => e = .returned (.int .i64 ((2 * n + d) / (2 * d))) ∧ Below w.heap.size w w' := by
 have HF : Hid (∀ W, Calls Tryz.prog 165 #[.int .i64 n, .int .i64 d] W fun e w' => e = .returned (.int .i64 ((2 * n + d) / (2 * d))) ∧ W = w') := fun W => nearest_any _ _ W hn hd
 clear hn hd
 go_enter Tryz.func137, Tryz.ntmps137
 go_upto_region 1 with fail
 refine genT (fun V => Row V (w.heap.size) 141 [.int .i64 n, .int .i64 d] ∧ Below w.heap.size w V) ⟨(rowAt _ _ (by first | rfl | simp only [World.size_alloc])), ((Below.refl _ _).alloc (by first | exact Nat.le_refl _ | (simp only [World.size_alloc]; omega)) _)⟩ ?_
 intro W1 s1
 have HS1 := Lib.hid s1
 clear s1
 have c0 := HS1.out.1.cell 0; have c1 := HS1.out.1.cell 1
 simp only [List.getElem?_cons_succ, List.getElem?_cons_zero] at c0 c1
 go_wp2_with (go_at_call 165; refine (HF.out _).mono ?_; rintro e w2 ⟨rfl, rfl⟩)
 go_ret
 exact ⟨rfl, HS1.out.2⟩
theorem timesQ_any (n d m p : Int) (w : World) (h1 : (n * m).natAbs ≤ 9000000000000000000) (h2 : (d * p).natAbs ≤ 9000000000000000000) : Calls Tryz.prog 134 #[.agg #[.int .i64 n, .int .i64 d], .agg #[.int .i64 m, .int .i64 p]] w fun e w' => e = .returned (.agg #[.int .i64 (n * m), .int .i64 (d * p)]) ∧ Below w.heap.size w w' := by
 have e1 : IntKind.i64.wrap (n * m) = n * m := IntWalk.i64_in _ (by omega)
 have e2 : IntKind.i64.wrap (d * p) = d * p := IntWalk.i64_in _ (by omega)
 clear h1 h2
 go_enter Tryz.func134, Tryz.ntmps134
 go_upto_region 1 with fail
 refine genT (fun V => Row V (w.heap.size) 141 [.int .i64 n, .int .i64 d] ∧ Row V (w.heap.size + 1) 141 [.int .i64 m, .int .i64 p] ∧ Row V (w.heap.size + 1 + 1) 141 [.int .i64 0, .int .i64 0] ∧ Below w.heap.size w V) ⟨(Row.alloc (Row.alloc (rowAt _ _ (by first | rfl | simp only [World.size_alloc])) _) _), (Row.alloc (rowAt _ _ (by first | rfl | simp only [World.size_alloc])) _), (rowAt _ _ (by first | rfl | simp only [World.size_alloc])), ((((Below.refl _ _).alloc (by first | exact Nat.le_refl _ | (simp only [World.size_alloc]; omega)) _).alloc (by first | exact Nat.le_refl _ | (simp only [World.size_alloc]; omega)) _).alloc (by first | exact Nat.le_refl _ | (simp only [World.size_alloc]; omega)) _)⟩ ?_
 intro W1 s1
 have HS1 := Lib.hid s1
 clear s1
 have c0 := HS1.out.1.cell 0; have c1 := HS1.out.1.cell 1; have d0 := HS1.out.2.1.cell 0; have d1 := HS1.out.2.1.cell 1
 simp only [List.getElem?_cons_succ, List.getElem?_cons_zero] at c0 c1 d0 d1
 go_wp2_with (refine wpList_store_row rfl 141 _ _ rfl (w.heap.size + 1 + 1) #[.int .i64 (n * m), .int .i64 (d * p)] rfl rfl 141 _ HS1.out.2.2.1 ?_ ?_ ?_ ?_; (kernel_rfl); (rfl); (simp [Value.oneCell']))
 refine bodyPost_ret (results_rowA rfl _ _ (w.heap.size + 1 + 1) 141 #[.int .i64 (n * m), .int .i64 (d * p)] (0, 0) _ rfl (HS1.out.2.2.1.setRow [.int .i64 (n * m), .int .i64 (d * p)]) Tryz.underlying141 rfl (by kernel_rfl)) rfl ⟨rfl, Below.setRow HS1.out.2.2.2 (by omega) _⟩
theorem integer_anyT (n : Int) (w : World) : Calls Tryz.prog 76 #[.int .i64 n] w fun e w' => e = .returned (.agg #[.int .i64 n, .int .i64 1]) ∧ Below w.heap.size w w' := by
 go_enter Tryz.func76, Tryz.ntmps76
 go_upto_region 1 with fail
 refine genT (fun V => Row V (w.heap.size) 141 [.int .i64 0, .int .i64 0] ∧ Below w.heap.size w V) ⟨(rowAt _ _ (by first | rfl | simp only [World.size_alloc])), ((Below.refl _ _).alloc (by first | exact Nat.le_refl _ | (simp only [World.size_alloc]; omega)) _)⟩ ?_
 intro W1 s1
 have HS1 := Lib.hid s1
 clear s1
 go_wp2_with (refine wpList_store_row rfl 141 _ _ rfl (w.heap.size) #[.int .i64 n, .int .i64 1] rfl rfl 141 _ HS1.out.1 ?_ ?_ ?_ ?_; (kernel_rfl); (rfl); (simp [Value.oneCell']))
 refine bodyPost_ret (results_rowA rfl _ _ (w.heap.size) 141 #[.int .i64 n, .int .i64 1] (0, 0) _ rfl (HS1.out.1.setRow [.int .i64 n, .int .i64 1]) Tryz.underlying141 rfl (by kernel_rfl)) rfl ⟨rfl, Below.setRow HS1.out.2 (by omega) _⟩
def cmpI (a b : Int) : Int := if a < b then -1 else if b < a then 1 else 0
theorem isNaN64_any (a : Int) (w : World) : Calls Tryz.prog 152 #[.int .i64 a] w fun e w' => e = .returned (.bool false) ∧ w = w' := by
 go_enter Tryz.func152, Tryz.ntmps152
 go_wp2
 go_ret
 exact ⟨by simp, rfl⟩
theorem cmp64_any (a b : Int) (w : World) : Calls Tryz.prog 126 #[.int .i64 a, .int .i64 b] w fun e w' => e = .returned (.int .i64 (cmpI a b)) ∧ w = w' := by
 rcases Int.lt_trichotomy a b with h | h | h
 · have HR : Hid (cmpI a b = -1) := by unfold Hid cmpI; rw [if_pos h]
   go_enter Tryz.func126, Tryz.ntmps126
   go_wp2_with (go_at_call 152; refine (isNaN64_any _ _).mono ?_; rintro e w2 ⟨rfl, rfl⟩)
   go_ret
   exact ⟨by rw [HR.out]; rfl, rfl⟩
 · have HR : Hid (cmpI a b = 0) := by unfold Hid cmpI; rw [if_neg (by omega), if_neg (by omega)]
   have h1 : ¬ a < b := by omega
   have h2 : ¬ b < a := by omega
   clear h
   go_enter Tryz.func126, Tryz.ntmps126
   go_wp2_with (go_at_call 152; refine (isNaN64_any _ _).mono ?_; rintro e w2 ⟨rfl, rfl⟩)
   go_ret
   exact ⟨by rw [HR.out]; rfl, rfl⟩
 · have HR : Hid (cmpI a b = 1) := by unfold Hid cmpI; rw [if_neg (by omega), if_pos h]
   have h1 : ¬ a < b := by omega
   go_enter Tryz.func126, Tryz.ntmps126
   go_wp2_with (go_at_call 152; refine (isNaN64_any _ _).mono ?_; rintro e w2 ⟨rfl, rfl⟩)
   go_ret
   exact ⟨by rw [HR.out]; rfl, rfl⟩
theorem compareQ_any (n d m p : Int) (w : World) (h1 : (n * p).natAbs ≤ 9000000000000000000) (h2 : (m * d).natAbs ≤ 9000000000000000000) : Calls Tryz.prog 73 #[.agg #[.int .i64 n, .int .i64 d], .agg #[.int .i64 m, .int .i64 p]] w fun e w' => e = .returned (.int .i64 (cmpI (n * p) (m * d))) ∧ Below w.heap.size w w' := by
 have e1 : IntKind.i64.wrap (n * p) = n * p := IntWalk.i64_in _ (by omega)
 have e2 : IntKind.i64.wrap (m * d) = m * d := IntWalk.i64_in _ (by omega)
 clear h1 h2
 go_enter Tryz.func73, Tryz.ntmps73
 go_upto_region 1 with fail
 refine genT (fun V => Row V (w.heap.size) 141 [.int .i64 n, .int .i64 d] ∧ Row V (w.heap.size + 1) 141 [.int .i64 m, .int .i64 p] ∧ Below w.heap.size w V) ⟨(Row.alloc (rowAt _ _ (by first | rfl | simp only [World.size_alloc])) _), (rowAt _ _ (by first | rfl | simp only [World.size_alloc])), (((Below.refl _ _).alloc (by first | exact Nat.le_refl _ | (simp only [World.size_alloc]; omega)) _).alloc (by first | exact Nat.le_refl _ | (simp only [World.size_alloc]; omega)) _)⟩ ?_
 intro W1 s1
 have HS1 := Lib.hid s1
 clear s1
 have c0 := HS1.out.1.cell 0; have c1 := HS1.out.1.cell 1; have d0 := HS1.out.2.1.cell 0; have d1 := HS1.out.2.1.cell 1
 simp only [List.getElem?_cons_succ, List.getElem?_cons_zero] at c0 c1 d0 d1
 go_wp2_with (go_at_call 126; refine (cmp64_any _ _ _).mono ?_; rintro e w2 ⟨rfl, rfl⟩)
 go_ret
 exact ⟨rfl, HS1.out.2.2⟩
def shownI (scale full n d : Int) : Int := max (-full) (min full ((2 * (n * scale) + d) / (2 * d)))
set_option maxRecDepth 100000 in
set_option maxHeartbeats 1000000 in
theorem shown_any (rs rf rl ra rb n d : Int) (w : World) (hs : 1 ≤ rs ∧ rs ≤ 1000) (hf : 1 ≤ rf ∧ rf ≤ 1000) (hn : n.natAbs ≤ 10000000000000) (hd : 0 < d ∧ d ≤ 10000000000000) : Calls Tryz.prog 92 #[.agg #[.int .i64 rs, .int .i64 rf, .int .i64 rl, .int .i64 ra, .int .i64 rb], .agg #[.int .i64 n, .int .i64 d]] w fun e w' => e = .returned (.int .i64 (shownI rs rf n d)) ∧ Below w.heap.size w w' := by
 have b1 : (n * rs).natAbs ≤ 10000000000000 * 1000 := by rw [Int.natAbs_mul]; exact Nat.mul_le_mul hn (by omega)
 have hd1 : d * 1 = d := Int.mul_one d
 have HI : Hid (∀ W, Calls Tryz.prog 76 #[.int .i64 rs] W fun e w' => e = .returned (.agg #[.int .i64 rs, .int .i64 1]) ∧ Below W.heap.size W w') := fun W => integer_anyT rs W
 have HT : Hid (∀ W, Calls Tryz.prog 134 #[.agg #[.int .i64 n, .int .i64 d], .agg #[.int .i64 rs, .int .i64 1]] W fun e w' => e = .returned (.agg #[.int .i64 (n * rs), .int .i64 d]) ∧ Below W.heap.size W w') := fun W => by have h := timesQ_any n d rs 1 W (by omega) (by omega); rw [hd1] at h; exact h
 obtain ⟨p, hp⟩ : ∃ p, p = (2 * (n * rs) + d) / (2 * d) := ⟨_, rfl⟩
 have HN : Hid (∀ W, Calls Tryz.prog 137 #[.agg #[.int .i64 (n * rs), .int .i64 d]] W fun e w' => e = .returned (.int .i64 p) ∧ Below W.heap.size W w') := fun W => by rw [hp]; exact nearestQ_any (n * rs) d W (by omega) (by omega)
 obtain ⟨nr, hnr⟩ : ∃ nr, nr = n * rs := ⟨_, rfl⟩
 have hsh : shownI rs rf n d = max (-rf) (min rf p) := by unfold shownI; rw [← hp]
 rw [← hnr] at HT HN
 have e1 : IntKind.i64.wrap (-rf) = -rf := IntWalk.i64_in _ (by omega)
 have e2 : IntKind.i64.wrap (0 - rf) = -rf := by rw [Int.zero_sub]; exact e1
 have HF : Hid (1 ≤ rf) := hf.1
 rw [hsh]
 clear hs hf hn hd b1 hd1 hp hnr hsh
 go_enter Tryz.func92, Tryz.ntmps92
 go_upto_region 1 with fail
 refine genT (fun V => Row V (w.heap.size) 87 [.int .i64 rs, .int .i64 rf, .int .i64 rl, .int .i64 ra, .int .i64 rb] ∧ Row V (w.heap.size + 1) 141 [.int .i64 n, .int .i64 d] ∧ Below w.heap.size w V) ⟨(Row.alloc (rowAt _ _ (by first | rfl | simp only [World.size_alloc])) _), (rowAt _ _ (by first | rfl | simp only [World.size_alloc])), (((Below.refl _ _).alloc (by first | exact Nat.le_refl _ | (simp only [World.size_alloc]; omega)) _).alloc (by first | exact Nat.le_refl _ | (simp only [World.size_alloc]; omega)) _)⟩ ?_
 intro W1 s1
 have HS1 := Lib.hid s1
 clear s1
 refine wp_region_held_drew (S := fun V => Row V (w.heap.size) 87 [.int .i64 rs, .int .i64 rf, .int .i64 rl, .int .i64 ra, .int .i64 rb] ∧ Row V (w.heap.size + 1) 141 [.int .i64 n, .int .i64 d] ∧ Below w.heap.size w V) (by kernel_rfl) ?_ (fun hHeld => ?_)
 · exact ⟨(HS1.out.1).drew, (HS1.out.2.1).drew, (HS1.out.2.2).drew⟩
 refine tk 0 6 (.agg #[.int .i64 n, .int .i64 d]) rfl (by kernel_rfl) (fun _ _ _ h => h) (by kernel_rfl) (fun V hV => ex_rowT 141 _ rfl (w.heap.size + 1) rfl 141 [.int .i64 n, .int .i64 d] _ Tryz.underlying141 rfl (by kernel_rfl) (hV.2.1)) hHeld ?_
 try simp only [zz]
 refine ta 1 7 hHeld ?_
 try simp only [zz]
 refine tk 2 8 ?_ rfl (by kernel_rfl) (fun _ _ _ h => h) (by kernel_rfl) ?_ hHeld ?_
 rotate_left
 · intro w1 hSw; (try dsimp only at hSw); have cc := (hSw.1).cell 0; simp only [List.getElem?_cons_succ, List.getElem?_cons_zero] at cc; go_simp <;> with_reducible rfl
 try simp only [zz]
 refine st2 3 (fun K hK => ?_)
 go_simp
 go_at_call 76
 refine (HI.out _).mono ?_
 rintro e v3 ⟨rfl, hb3⟩
 try go_simp
 refine hK.out _ _ ?_ (fun hHeld => ?_)
 · exact ⟨(hHeld.1).old hb3, (hHeld.2.1).old hb3, (hHeld.2.2).trans ((hb3).mono (hHeld.2.2).size)⟩
 clear hK K
 try simp only [zz]
 refine st2 4 (fun K hK => ?_)
 go_simp
 go_at_call 134
 refine (HT.out _).mono ?_
 rintro e v4 ⟨rfl, hb4⟩
 try go_simp
 refine hK.out _ _ ?_ (fun hHeld => ?_)
 · exact ⟨(hHeld.1).old hb4, (hHeld.2.1).old hb4, (hHeld.2.2).trans ((hb4).mono (hHeld.2.2).size)⟩
 clear hK K
 try simp only [zz]
 refine st2 5 (fun K hK => ?_)
 go_simp
 go_at_call 137
 refine (HN.out _).mono ?_
 rintro e v5 ⟨rfl, hb5⟩
 try go_simp
 refine hK.out _ _ ?_ (fun hHeld => ?_)
 · exact ⟨(hHeld.1).old hb5, (hHeld.2.1).old hb5, (hHeld.2.2).trans ((hb5).mono (hHeld.2.2).size)⟩
 clear hK K
 try simp only [zz]
 refine ta 6 5 hHeld ?_
 try simp only [zz]
 refine wpAnyH_done (by kernel_rfl) ?_ _
 have c1 := hHeld.1.cell 1
 simp only [List.getElem?_cons_succ, List.getElem?_cons_zero] at c1
 go_wp2_with fail
 all_goals go_ret
 all_goals exact ⟨ret_int (by have := HF.out; omega), hHeld.2.2⟩
theorem ex_Interval {o : Oper} {a : Act} {w : World} {u v : Value} (x : Operand) (ho : o.op = .load 85 x) (g off : Nat) (hx : a.eval x = .pointer (some ⟨g, off, none⟩)) (c0 : w.cell? ⟨g, off, none⟩ = some u) (c1 : w.cell? ⟨g, off + 1, none⟩ = some v) :
 (execOp a.eval o).run Tryz.prog w = .ok (.value (.agg #[u, v])) w := by
 unfold execOp
 simp only [ho, hx]
 go_simp
def ivE (lo hi low high : Int) : Int := firstI [whenI (rangeB lo low high) 3, whenI (rangeB hi low high) 3, whenI (decide (hi < lo)) 11]
def recE (rs rf rl ra rb : Int) : Int := firstI [whenI (rangeB rs 1 1000) 3, whenI (rangeB rf 1 1000) 3, whenI (rangeB rl 0 200000000) 3, ivE ra rb (-10000) 10000]
set_option maxRecDepth 100000 in
set_option maxHeartbeats 1000000 in
theorem checkReceiver_of (rs rf rl ra rb : Int) (w : World) (HI : ∀ W, Calls Tryz.prog 88 #[.agg #[.int .i64 ra, .int .i64 rb], .int .i64 (-10000), .int .i64 10000] W fun e w' => e = .returned (.int .i64 (ivE ra rb (-10000) 10000)) ∧ Below W.heap.size W w') : Calls Tryz.prog 84 #[.agg #[.int .i64 rs, .int .i64 rf, .int .i64 rl, .int .i64 ra, .int .i64 rb]] w fun e w' => e = .returned (.int .i64 (recE rs rf rl ra rb)) ∧ Below w.heap.size w w' := by
 have HI := Lib.hid HI
 unfold recE
 obtain ⟨E4, hE4⟩ : ∃ E4, E4 = ivE ra rb (-10000) 10000 := ⟨_, rfl⟩
 rw [← hE4] at HI ⊢
 clear hE4
 go_enter Tryz.func84, Tryz.ntmps84
 go_upto_region 1 with fail
 refine genT (fun V => Row V (w.heap.size) 87 [.int .i64 rs, .int .i64 rf, .int .i64 rl, .int .i64 ra, .int .i64 rb] ∧ Below w.heap.size w V) ⟨Row.new w _ [.int .i64 rs, .int .i64 rf, .int .i64 rl, .int .i64 ra, .int .i64 rb], (Below.refl _ _).alloc (Nat.le_refl _) _⟩ ?_
 intro W1 s1
 have HS1 := Lib.hid s1
 clear s1
 refine wp_region_held_drew (S := fun V => Row V (w.heap.size) 87 [.int .i64 rs, .int .i64 rf, .int .i64 rl, .int .i64 ra, .int .i64 rb] ∧ Below w.heap.size w V) (by kernel_rfl) ?_ (fun hHeld => ?_)
 · exact ⟨(HS1.out.1).drew, (HS1.out.2).drew⟩
 refine ta 0 3 hHeld ?_
 try simp only [zz]
 refine tk 1 4 ?_ rfl (by kernel_rfl) (fun _ _ _ h => h) (by kernel_rfl) ?_ hHeld ?_
 rotate_left
 · intro w1 hSw; (try dsimp only at hSw); have cc := (hSw.1).cell 0; simp only [List.getElem?_cons_succ, List.getElem?_cons_zero] at cc; go_simp <;> with_reducible rfl
 try simp only [zz]
 refine ta 3 6 hHeld ?_
 try simp only [zz]
 refine tk 4 7 ?_ rfl (by kernel_rfl) (fun _ _ _ h => h) (by kernel_rfl) ?_ hHeld ?_
 rotate_left
 · intro w1 hSw; (try dsimp only at hSw); have cc := (hSw.1).cell 1; simp only [List.getElem?_cons_succ, List.getElem?_cons_zero] at cc; go_simp <;> with_reducible rfl
 try simp only [zz]
 refine ta 6 9 hHeld ?_
 try simp only [zz]
 refine tk 7 10 ?_ rfl (by kernel_rfl) (fun _ _ _ h => h) (by kernel_rfl) ?_ hHeld ?_
 rotate_left
 · intro w1 hSw; (try dsimp only at hSw); have cc := (hSw.1).cell 2; simp only [List.getElem?_cons_succ, List.getElem?_cons_zero] at cc; go_simp <;> with_reducible rfl
 try simp only [zz]
 refine ta 9 12 hHeld ?_
 try simp only [zz]
 refine tk 10 13 (.agg #[.int .i64 ra, .int .i64 rb]) rfl (by kernel_rfl) (fun _ _ _ h => h) (by kernel_rfl) (fun V hV => ex_Interval _ rfl (w.heap.size) 3 rfl ((hV.1).cell 3) ((hV.1).cell 4)) hHeld ?_
 try simp only [zz]
 refine st2 2 (fun K hK => ?_)
 go_simp
 go_at_call 86
 refine (between_any rs 1 1000 _).mono ?_
 rintro e v2 ⟨rfl, rfl⟩
 try go_simp
 refine hK.out _ _ ?_ (fun hHeld => ?_)
 · exact hHeld
 clear hK K
 try simp only [zz]
 refine st2 5 (fun K hK => ?_)
 go_simp
 go_at_call 86
 refine (between_any rf 1 1000 _).mono ?_
 rintro e v5 ⟨rfl, rfl⟩
 try go_simp
 refine hK.out _ _ ?_ (fun hHeld => ?_)
 · exact hHeld
 clear hK K
 try simp only [zz]
 refine st2 8 (fun K hK => ?_)
 go_simp
 go_at_call 86
 refine (between_any rl 0 200000000 _).mono ?_
 rintro e v8 ⟨rfl, rfl⟩
 try go_simp
 refine hK.out _ _ ?_ (fun hHeld => ?_)
 · exact hHeld
 clear hK K
 try simp only [zz]
 refine st2 11 (fun K hK => ?_)
 go_simp
 go_at_call 88
 refine (HI.out _).mono ?_
 rintro e v11 ⟨rfl, hb11⟩
 try go_simp
 refine hK.out _ _ ?_ (fun hHeld => ?_)
 · exact ⟨(hHeld.1).old hb11, (hHeld.2).trans ((hb11).mono (hHeld.2).size)⟩
 clear hK K
 try simp only [zz]
 refine st2 12 (fun K hK => ?_)
 go_simp
 refine hK.out _ _ ?_ (fun hHeld => ?_)
 · exact ⟨(hHeld.1).old ((Below.refl _ _).alloc (Nat.le_refl _) _), (hHeld.2).trans ((((Below.refl _ _).alloc (Nat.le_refl _) _)).mono (hHeld.2).size)⟩
 clear hK K
 try simp only [zz]
 refine st2 13 (fun K hK => ?_)
 go_simp
 go_at_call 64
 refine (firstV_any _ _ _ [whenI (rangeB rs 1 1000) 3, whenI (rangeB rf 1 1000) 3, whenI (rangeB rl 0 200000000) 3, E4] _ ?_ rfl (by simp)).mono ?_
 · exact Rd.newT (t := 32)
 rintro e v13 ⟨rfl, rfl⟩
 try go_simp
 refine hK.out _ _ ?_ (fun hHeld => ?_)
 · exact hHeld
 clear hK K
 try simp only [zz]
 refine ta 14 2 hHeld ?_
 try simp only [zz]
 refine wpAnyH_done (by kernel_rfl) ?_ _
 go_wp2_with fail
 go_ret
 exact ⟨rfl, hHeld.2⟩
end Go.Proofs.YtaknlhepgeiekaaGreatDoor
