import Derived.Test.YtaknlhepgeiekaaGreatDoorH30
namespace Go.Proofs.YtaknlhepgeiekaaGreatDoor
set_option linter.all false
open Go.RowKit Go.Fl
set_option maxRecDepth 100000
set_option maxHeartbeats 8000000
theorem rwAB {p : Prop} (h : p := by (repeat (first | with_reducible exact Row.new _ _ _ | (refine rowAt _ _ ?_; first | rfl | (simp only [World.size_alloc, size_drewT]; done)) | with_reducible refine Row.setRow (vs := [.int .i64 0, .int .i64 0, .int .i64 0, .int .i64 0, .int .i64 0, .int .i64 0]) ?_ _ | with_reducible refine Row.old ?_ hb2 | with_reducible refine Row.old ?_ hb5 | with_reducible refine Row.old ?_ hb8 | with_reducible refine Row.old ?_ hb10 | with_reducible refine Row.alloc ?_ _ | with_reducible refine Row.drew ?_))) : p := h
theorem received_shape (a1 a2 b1 b2 c1 c2 d1 d2 e1 e2 f1 f2 g1 g2 h1 h2 : Nat) (Q : Array Value) (w : World) (HPA : ∀ W, Calls Tryz.prog 104 #[.agg #[.complex .f64 a1 a2, .complex .f64 b1 b2, .complex .f64 c1 c2, .complex .f64 d1 d2]] W fun e w' => e = .returned (.agg Q) ∧ Below W.heap.size W w') (HOV : ∀ W, Calls Tryz.prog 51 #[.agg Q, .int .i64 4] W fun e w' => e = .returned (.tuple #[.agg #[.complex .f64 e1 e2, .complex .f64 f1 f2, .complex .f64 g1 g2, .complex .f64 h1 h2], .bool false]) ∧ Below W.heap.size W w') : Calls Tryz.prog 49 #[.agg #[.complex .f64 a1 a2, .complex .f64 b1 b2, .complex .f64 c1 c2, .complex .f64 d1 d2]] w fun e w' => e = .returned (.tuple #[.agg #[.int .i64 0, .int .i64 0, .int .i64 0, .int .i64 0, .int .i64 0, .int .i64 0], .agg #[.int .i64 0, .int .i64 0], .int .i64 2]) ∧ Below w.heap.size w w' := by
 have HPA := Lib.hid HPA; have HOV := Lib.hid HOV
 go_enter Tryz.func49, Tryz.ntmps49
 go_upto_region 1 with fail
 refine genT (fun V => Row V (w.heap.size) 114 [.complex .f64 a1 a2, .complex .f64 b1 b2, .complex .f64 c1 c2, .complex .f64 d1 d2] ∧ Row V (w.heap.size + 1) 35 [.int .i64 0, .int .i64 0, .int .i64 0, .int .i64 0, .int .i64 0, .int .i64 0] ∧ Row V (w.heap.size + 1 + 1) 23 [.int .i64 0, .int .i64 0] ∧ Below w.heap.size w V) ⟨(Row.alloc (Row.alloc (rowAt _ _ (by first | rfl | simp only [World.size_alloc])) _) _), (Row.alloc (rowAt _ _ (by first | rfl | simp only [World.size_alloc])) _), (rowAt _ _ (by first | rfl | simp only [World.size_alloc])), ((((Below.refl _ _).alloc (by first | exact Nat.le_refl _ | (simp only [World.size_alloc]; omega)) _).alloc (by first | exact Nat.le_refl _ | (simp only [World.size_alloc]; omega)) _).alloc (by first | exact Nat.le_refl _ | (simp only [World.size_alloc]; omega)) _)⟩ ?_
 intro W1 s1
 have HS1 := Lib.hid s1
 clear s1
 go_wp2_with (refine wpList_load_row rfl 114 _ rfl (w.heap.size) rfl 114 #[.complex .f64 a1 a2, .complex .f64 b1 b2, .complex .f64 c1 c2, .complex .f64 d1 d2] (0, 0) _ HS1.out.1 Tryz.underlying114 rfl ?_ ?_; (kernel_rfl))
 refine (HPA.out _).mono ?_
 rintro e w2 ⟨rfl, hb2⟩
 have HS2 : Hid (Row w2 (w.heap.size) 114 [.complex .f64 a1 a2, .complex .f64 b1 b2, .complex .f64 c1 c2, .complex .f64 d1 d2] ∧ Row w2 (w.heap.size + 1) 35 [.int .i64 0, .int .i64 0, .int .i64 0, .int .i64 0, .int .i64 0, .int .i64 0] ∧ Row w2 (w.heap.size + 1 + 1) 23 [.int .i64 0, .int .i64 0] ∧ Below w.heap.size w w2) := ⟨(HS1.out.1).old hb2, (HS1.out.2.1).old hb2, (HS1.out.2.2.1).old hb2, (HS1.out.2.2.2).trans (hb2.mono (HS1.out.2.2.2).size)⟩
 clear hb2 HS1 HPA
 go_wp2_with fail
 refine (HOV.out _).mono ?_
 rintro e w3 ⟨rfl, hb3⟩
 have HS3 : Hid (Row w3 (w.heap.size) 114 [.complex .f64 a1 a2, .complex .f64 b1 b2, .complex .f64 c1 c2, .complex .f64 d1 d2] ∧ Row w3 (w.heap.size + 1) 35 [.int .i64 0, .int .i64 0, .int .i64 0, .int .i64 0, .int .i64 0, .int .i64 0] ∧ Row w3 (w.heap.size + 1 + 1) 23 [.int .i64 0, .int .i64 0] ∧ Below w.heap.size w w3) := ⟨(HS2.out.1).old hb3, (HS2.out.2.1).old hb3, (HS2.out.2.2.1).old hb3, (HS2.out.2.2.2).trans (hb3.mono (HS2.out.2.2.2).size)⟩
 clear hb3 HS2 HOV
 have HAL : Hid (Below w3.heap.size w3 (w3.alloc (.cells #[.complex .f64 e1 e2, .complex .f64 f1 f2, .complex .f64 g1 g2, .complex .f64 h1 h2] 114))) := (Below.refl _ _).alloc (Nat.le_refl _) _
 have HS4 : Hid (Row (w3.alloc (.cells #[.complex .f64 e1 e2, .complex .f64 f1 f2, .complex .f64 g1 g2, .complex .f64 h1 h2] 114)) w3.heap.size 114 [.complex .f64 e1 e2, .complex .f64 f1 f2, .complex .f64 g1 g2, .complex .f64 h1 h2] ∧ Row (w3.alloc (.cells #[.complex .f64 e1 e2, .complex .f64 f1 f2, .complex .f64 g1 g2, .complex .f64 h1 h2] 114)) (w.heap.size) 114 [.complex .f64 a1 a2, .complex .f64 b1 b2, .complex .f64 c1 c2, .complex .f64 d1 d2] ∧ Row (w3.alloc (.cells #[.complex .f64 e1 e2, .complex .f64 f1 f2, .complex .f64 g1 g2, .complex .f64 h1 h2] 114)) (w.heap.size + 1) 35 [.int .i64 0, .int .i64 0, .int .i64 0, .int .i64 0, .int .i64 0, .int .i64 0] ∧ Row (w3.alloc (.cells #[.complex .f64 e1 e2, .complex .f64 f1 f2, .complex .f64 g1 g2, .complex .f64 h1 h2] 114)) (w.heap.size + 1 + 1) 23 [.int .i64 0, .int .i64 0] ∧ Below w.heap.size w (w3.alloc (.cells #[.complex .f64 e1 e2, .complex .f64 f1 f2, .complex .f64 g1 g2, .complex .f64 h1 h2] 114))) := ⟨Row.new w3 114 [.complex .f64 e1 e2, .complex .f64 f1 f2, .complex .f64 g1 g2, .complex .f64 h1 h2], (HS3.out.1).old HAL.out, (HS3.out.2.1).old HAL.out, (HS3.out.2.2.1).old HAL.out, (HS3.out.2.2.2).trans (HAL.out.mono (HS3.out.2.2.2).size)⟩
 have hzl : w.heap.size + 1 + 1 < w3.heap.size := HS3.out.2.2.1.lt
 obtain ⟨g5, hg5⟩ : ∃ g5, g5 = w3.heap.size := ⟨_, rfl⟩
 rw [← hg5] at hzl
 clear hg5 HS3 HAL
 have hz2 := (HS4.out.2.2.2.1.farRow (show w.heap.size + 1 + 1 ≠ w.heap.size + 1 by omega) #[.int .i64 0, .int .i64 0, .int .i64 0, .int .i64 0, .int .i64 0, .int .i64 0])
 go_wp2_with (first
  | (refine wpList_store_row rfl 35 _ _ rfl (w.heap.size + 1) #[.int .i64 0, .int .i64 0, .int .i64 0, .int .i64 0, .int .i64 0, .int .i64 0] rfl rfl 35 _ HS4.out.2.2.1 ?_ ?_ ?_ ?_; (kernel_rfl); (rfl); (simp [Value.oneCell']))
  | (refine wpList_store_row rfl 23 _ _ rfl (w.heap.size + 1 + 1) #[.int .i64 0, .int .i64 0] rfl rfl 23 _ hz2 ?_ ?_ ?_ ?_; (kernel_rfl); (rfl); (simp [Value.oneCell'])))
 refine bodyPost_ret (results_rrt rfl _ _ (w.heap.size + 1) (w.heap.size + 1 + 1) 35 23 #[.int .i64 0, .int .i64 0, .int .i64 0, .int .i64 0, .int .i64 0, .int .i64 0] #[.int .i64 0, .int .i64 0] (0, 0) (0, 0) _ _ rfl ((HS4.out.2.2.1.setRow [.int .i64 0, .int .i64 0, .int .i64 0, .int .i64 0, .int .i64 0, .int .i64 0]).farRow (by omega) _) rfl (hz2.setRow [.int .i64 0, .int .i64 0]) Tryz.underlying35 rfl (by kernel_rfl) Tryz.underlying23 rfl (by kernel_rfl)) rfl ⟨rfl, Below.setRow (Below.setRow HS4.out.2.2.2.2 (by omega) _) (by omega) _⟩
theorem received_by (a1 a2 b1 b2 c1 c2 d1 d2 e1 e2 f1 f2 g1 g2 h1 h2 : Nat) (Q : Array Value) (x0 x1 x2 x3 x4 x5 z0 z1 z2 z3 z4 z5 z6 z7 : Int) (w : World) (HPA : ∀ W, Calls Tryz.prog 104 #[.agg #[.complex .f64 a1 a2, .complex .f64 b1 b2, .complex .f64 c1 c2, .complex .f64 d1 d2]] W fun e w' => e = .returned (.agg Q) ∧ Below W.heap.size W w') (HOV : ∀ W, Calls Tryz.prog 51 #[.agg Q, .int .i64 4] W fun e w' => e = .returned (.tuple #[.agg #[.complex .f64 e1 e2, .complex .f64 f1 f2, .complex .f64 g1 g2, .complex .f64 h1 h2], .bool true]) ∧ Below W.heap.size W w') (HG0 : ∀ W, Calls Tryz.prog 105 #[.complex .f64 e1 e2] W fun e w' => e = .returned (.agg #[.int .i64 x0, .int .i64 x1]) ∧ Below W.heap.size W w') (HG1 : ∀ W, Calls Tryz.prog 105 #[.complex .f64 f1 f2] W fun e w' => e = .returned (.agg #[.int .i64 x2, .int .i64 x3]) ∧ Below W.heap.size W w') (HG2 : ∀ W, Calls Tryz.prog 105 #[.complex .f64 g1 g2] W fun e w' => e = .returned (.agg #[.int .i64 x4, .int .i64 x5]) ∧ Below W.heap.size W w') (HG3 : ∀ W, Calls Tryz.prog 105 #[.complex .f64 h1 h2] W fun e w' => e = .returned (.agg #[.int .i64 z6, .int .i64 z7]) ∧ Below W.heap.size W w') (HRS : ∀ W, Calls Tryz.prog 70 #[.agg #[.int .i64 x0, .int .i64 x1, .int .i64 x2, .int .i64 x3, .int .i64 x4, .int .i64 x5]] W fun e w' => e = .returned (.tuple #[.agg #[.int .i64 z0, .int .i64 z1, .int .i64 z2, .int .i64 z3, .int .i64 z4, .int .i64 z5], .int .i64 0]) ∧ Below W.heap.size W w') : Calls Tryz.prog 49 #[.agg #[.complex .f64 a1 a2, .complex .f64 b1 b2, .complex .f64 c1 c2, .complex .f64 d1 d2]] w fun e w' => e = .returned (.tuple #[.agg #[.int .i64 z0, .int .i64 z1, .int .i64 z2, .int .i64 z3, .int .i64 z4, .int .i64 z5], .agg #[.int .i64 z6, .int .i64 z7], .int .i64 0]) ∧ Below w.heap.size w w' := by
 have HPA := Lib.hid HPA; have HOV := Lib.hid HOV; have HG0 := Lib.hid HG0; have HG1 := Lib.hid HG1; have HG2 := Lib.hid HG2; have HG3 := Lib.hid HG3; have HRS := Lib.hid HRS
 go_enter Tryz.func49, Tryz.ntmps49
 go_upto_region 1 with fail
 refine genT (fun V => Row V (w.heap.size) 114 [.complex .f64 a1 a2, .complex .f64 b1 b2, .complex .f64 c1 c2, .complex .f64 d1 d2] ∧ Row V (w.heap.size + 1) 35 [.int .i64 0, .int .i64 0, .int .i64 0, .int .i64 0, .int .i64 0, .int .i64 0] ∧ Row V (w.heap.size + 1 + 1) 23 [.int .i64 0, .int .i64 0] ∧ Below w.heap.size w V) ⟨(Row.alloc (Row.alloc (rowAt _ _ (by first | rfl | simp only [World.size_alloc])) _) _), (Row.alloc (rowAt _ _ (by first | rfl | simp only [World.size_alloc])) _), (rowAt _ _ (by first | rfl | simp only [World.size_alloc])), ((((Below.refl _ _).alloc (by first | exact Nat.le_refl _ | (simp only [World.size_alloc]; omega)) _).alloc (by first | exact Nat.le_refl _ | (simp only [World.size_alloc]; omega)) _).alloc (by first | exact Nat.le_refl _ | (simp only [World.size_alloc]; omega)) _)⟩ ?_
 intro W1 s1
 have HS1 := Lib.hid s1
 clear s1
 go_wp2_with (refine wpList_load_row rfl 114 _ rfl (w.heap.size) rfl 114 #[.complex .f64 a1 a2, .complex .f64 b1 b2, .complex .f64 c1 c2, .complex .f64 d1 d2] (0, 0) _ HS1.out.1 Tryz.underlying114 rfl ?_ ?_; (kernel_rfl))
 refine (HPA.out _).mono ?_
 rintro e w2 ⟨rfl, hb2⟩
 have HS2 : Hid (Row w2 (w.heap.size) 114 [.complex .f64 a1 a2, .complex .f64 b1 b2, .complex .f64 c1 c2, .complex .f64 d1 d2] ∧ Row w2 (w.heap.size + 1) 35 [.int .i64 0, .int .i64 0, .int .i64 0, .int .i64 0, .int .i64 0, .int .i64 0] ∧ Row w2 (w.heap.size + 1 + 1) 23 [.int .i64 0, .int .i64 0] ∧ Below w.heap.size w w2) := ⟨(HS1.out.1).old hb2, (HS1.out.2.1).old hb2, (HS1.out.2.2.1).old hb2, (HS1.out.2.2.2).trans (hb2.mono (HS1.out.2.2.2).size)⟩
 clear hb2 HS1 HPA
 go_wp2_with fail
 refine (HOV.out _).mono ?_
 rintro e w3 ⟨rfl, hb3⟩
 have HS3 : Hid (Row w3 (w.heap.size) 114 [.complex .f64 a1 a2, .complex .f64 b1 b2, .complex .f64 c1 c2, .complex .f64 d1 d2] ∧ Row w3 (w.heap.size + 1) 35 [.int .i64 0, .int .i64 0, .int .i64 0, .int .i64 0, .int .i64 0, .int .i64 0] ∧ Row w3 (w.heap.size + 1 + 1) 23 [.int .i64 0, .int .i64 0] ∧ Below w.heap.size w w3) := ⟨(HS2.out.1).old hb3, (HS2.out.2.1).old hb3, (HS2.out.2.2.1).old hb3, (HS2.out.2.2.2).trans (hb3.mono (HS2.out.2.2.2).size)⟩
 clear hb3 HS2 HOV
 have HAL : Hid (Below w3.heap.size w3 (w3.alloc (.cells #[.complex .f64 e1 e2, .complex .f64 f1 f2, .complex .f64 g1 g2, .complex .f64 h1 h2] 114))) := (Below.refl _ _).alloc (Nat.le_refl _) _
 have HS4 : Hid (Row (w3.alloc (.cells #[.complex .f64 e1 e2, .complex .f64 f1 f2, .complex .f64 g1 g2, .complex .f64 h1 h2] 114)) w3.heap.size 114 [.complex .f64 e1 e2, .complex .f64 f1 f2, .complex .f64 g1 g2, .complex .f64 h1 h2] ∧ Row (w3.alloc (.cells #[.complex .f64 e1 e2, .complex .f64 f1 f2, .complex .f64 g1 g2, .complex .f64 h1 h2] 114)) (w.heap.size) 114 [.complex .f64 a1 a2, .complex .f64 b1 b2, .complex .f64 c1 c2, .complex .f64 d1 d2] ∧ Row (w3.alloc (.cells #[.complex .f64 e1 e2, .complex .f64 f1 f2, .complex .f64 g1 g2, .complex .f64 h1 h2] 114)) (w.heap.size + 1) 35 [.int .i64 0, .int .i64 0, .int .i64 0, .int .i64 0, .int .i64 0, .int .i64 0] ∧ Row (w3.alloc (.cells #[.complex .f64 e1 e2, .complex .f64 f1 f2, .complex .f64 g1 g2, .complex .f64 h1 h2] 114)) (w.heap.size + 1 + 1) 23 [.int .i64 0, .int .i64 0] ∧ Below w.heap.size w (w3.alloc (.cells #[.complex .f64 e1 e2, .complex .f64 f1 f2, .complex .f64 g1 g2, .complex .f64 h1 h2] 114))) := ⟨Row.new w3 114 [.complex .f64 e1 e2, .complex .f64 f1 f2, .complex .f64 g1 g2, .complex .f64 h1 h2], (HS3.out.1).old HAL.out, (HS3.out.2.1).old HAL.out, (HS3.out.2.2.1).old HAL.out, (HS3.out.2.2.2).trans (HAL.out.mono (HS3.out.2.2.2).size)⟩
 have hzl : w.heap.size + 1 + 1 < w3.heap.size := HS3.out.2.2.1.lt
 obtain ⟨g5, hg5⟩ : ∃ g5, g5 = w3.heap.size := ⟨_, rfl⟩
 rw [← hg5] at hzl
 have HS5 : Hid (Row (w3.alloc (.cells #[.complex .f64 e1 e2, .complex .f64 f1 f2, .complex .f64 g1 g2, .complex .f64 h1 h2] 114)) (g5) 114 [.complex .f64 e1 e2, .complex .f64 f1 f2, .complex .f64 g1 g2, .complex .f64 h1 h2] ∧ Row (w3.alloc (.cells #[.complex .f64 e1 e2, .complex .f64 f1 f2, .complex .f64 g1 g2, .complex .f64 h1 h2] 114)) (w.heap.size) 114 [.complex .f64 a1 a2, .complex .f64 b1 b2, .complex .f64 c1 c2, .complex .f64 d1 d2] ∧ RowN (w3.alloc (.cells #[.complex .f64 e1 e2, .complex .f64 f1 f2, .complex .f64 g1 g2, .complex .f64 h1 h2] 114)) (w.heap.size + 1) 35 6 ∧ RowN (w3.alloc (.cells #[.complex .f64 e1 e2, .complex .f64 f1 f2, .complex .f64 g1 g2, .complex .f64 h1 h2] 114)) (w.heap.size + 1 + 1) 23 2 ∧ Below w.heap.size w (w3.alloc (.cells #[.complex .f64 e1 e2, .complex .f64 f1 f2, .complex .f64 g1 g2, .complex .f64 h1 h2] 114))) := by
  rw [hg5]; exact ⟨HS4.out.1, HS4.out.2.1, ⟨_, rfl, HS4.out.2.2.1⟩, ⟨_, rfl, HS4.out.2.2.2.1⟩, HS4.out.2.2.2.2⟩
 clear HS3 HS4 HAL
 go_upto_region 4 with fail
 rw [← hg5]
 refine genT (fun V => Row V (g5) 114 [.complex .f64 e1 e2, .complex .f64 f1 f2, .complex .f64 g1 g2, .complex .f64 h1 h2] ∧ Row V (w.heap.size) 114 [.complex .f64 a1 a2, .complex .f64 b1 b2, .complex .f64 c1 c2, .complex .f64 d1 d2] ∧ RowN V (w.heap.size + 1) 35 6 ∧ RowN V (w.heap.size + 1 + 1) 23 2 ∧ Below w.heap.size w V) HS5.out ?_
 intro W1 s1
 have HS1 := Lib.hid s1
 have hw1 : g5 < W1.heap.size := HS1.out.1.lt
 clear s1 HS5 hg5
 go_cut [7, 8] from 19 to 32 (fun s7 s8 wx => ∃ g7, s7 = .pointer (some ⟨g7, 0, none⟩) ∧ s8 = .int .i64 0 ∧ Row wx g7 35 [.int .i64 z0, .int .i64 z1, .int .i64 z2, .int .i64 z3, .int .i64 z4, .int .i64 z5] ∧ g5 < g7 ∧ Row wx (g5) 114 [.complex .f64 e1 e2, .complex .f64 f1 f2, .complex .f64 g1 g2, .complex .f64 h1 h2] ∧ Row wx (w.heap.size) 114 [.complex .f64 a1 a2, .complex .f64 b1 b2, .complex .f64 c1 c2, .complex .f64 d1 d2] ∧ RowN wx (w.heap.size + 1) 35 6 ∧ RowN wx (w.heap.size + 1 + 1) 23 2 ∧ Below w.heap.size w wx)
 case first =>
  clear HG3
  refine wp_region_held_drew (S := fun V => Row V (g5) 114 [.complex .f64 e1 e2, .complex .f64 f1 f2, .complex .f64 g1 g2, .complex .f64 h1 h2] ∧ Row V (w.heap.size) 114 [.complex .f64 a1 a2, .complex .f64 b1 b2, .complex .f64 c1 c2, .complex .f64 d1 d2] ∧ RowN V (w.heap.size + 1) 35 6 ∧ RowN V (w.heap.size + 1 + 1) 23 2 ∧ Below w.heap.size w V) (by kernel_rfl) ?_ (fun hHeld => ?_)
  · exact ⟨(HS1.out.1).drew, (HS1.out.2.1).drew, (HS1.out.2.2.1).drew, (HS1.out.2.2.2.1).drew, (HS1.out.2.2.2.2).drew⟩
  refine ta 0 20 hHeld ?_
  try simp only [zz]
  refine tk 1 21 ?_ rfl (by kernel_rfl) (fun _ _ _ h => h) (by kernel_rfl) ?_ hHeld ?_
  rotate_left
  · intro w1 hSw; (try dsimp only at hSw); have cc := (hSw.1).cell 0; simp only [List.getElem?_cons_succ, List.getElem?_cons_zero] at cc; go_simp <;> with_reducible rfl
  try simp only [zz]
  refine ta 3 23 hHeld ?_
  try simp only [zz]
  refine tk 4 24 ?_ rfl (by kernel_rfl) (fun _ _ _ h => h) (by kernel_rfl) ?_ hHeld ?_
  rotate_left
  · intro w1 hSw; (try dsimp only at hSw); have cc := (hSw.1).cell 1; simp only [List.getElem?_cons_succ, List.getElem?_cons_zero] at cc; go_simp <;> with_reducible rfl
  try simp only [zz]
  refine ta 6 26 hHeld ?_
  try simp only [zz]
  refine tk 7 27 ?_ rfl (by kernel_rfl) (fun _ _ _ h => h) (by kernel_rfl) ?_ hHeld ?_
  rotate_left
  · intro w1 hSw; (try dsimp only at hSw); have cc := (hSw.1).cell 2; simp only [List.getElem?_cons_succ, List.getElem?_cons_zero] at cc; go_simp <;> with_reducible rfl
  try simp only [zz]
  refine st3 2 14 (fun K hK => ?_) (fun K hK => ?_)
  ·
   go_simp
   go_at_call 105
   refine (HG0.out _).mono ?_
   rintro e v2 ⟨rfl, hb2⟩
   have hz2 := hb2.size
   try simp only [World.size_alloc, size_drewT] at hz2
   try go_simp
   refine hK.out _ _ ?_ (fun hHeld => ?_)
   · exact ⟨(hHeld.1).old hb2, (hHeld.2.1).old hb2, (hHeld.2.2.1).old hb2, (hHeld.2.2.2.1).old hb2, (hHeld.2.2.2.2).trans ((hb2).mono (hHeld.2.2.2.2).size)⟩
   clear hK K
   try simp only [zz]
   refine st3 5 14 (fun K hK => ?_) (fun K hK => ?_)
   ·
    go_simp
    go_at_call 105
    refine (HG1.out _).mono ?_
    rintro e v5 ⟨rfl, hb5⟩
    have hz5 := hb5.size
    try simp only [World.size_alloc, size_drewT] at hz5
    try go_simp
    refine hK.out _ _ ?_ (fun hHeld => ?_)
    · exact ⟨(hHeld.1).old hb5, (hHeld.2.1).old hb5, (hHeld.2.2.1).old hb5, (hHeld.2.2.2.1).old hb5, (hHeld.2.2.2.2).trans ((hb5).mono (hHeld.2.2.2.2).size)⟩
    clear hK K
    try simp only [zz]
    refine st3 8 14 (fun K hK => ?_) (fun K hK => ?_)
    ·
     go_simp
     go_at_call 105
     refine (HG2.out _).mono ?_
     rintro e v8 ⟨rfl, hb8⟩
     have hz8 := hb8.size
     try simp only [World.size_alloc, size_drewT] at hz8
     try go_simp
     refine hK.out _ _ ?_ (fun hHeld => ?_)
     · exact ⟨(hHeld.1).old hb8, (hHeld.2.1).old hb8, (hHeld.2.2.1).old hb8, (hHeld.2.2.2.1).old hb8, (hHeld.2.2.2.2).trans ((hb8).mono (hHeld.2.2.2.2).size)⟩
     clear hK K
     try simp only [zz]
     refine ta 9 29 hHeld ?_
     try simp only [zz]
     refine st3 10 14 (fun K hK => ?_) (fun K hK => ?_)
     ·
      go_simp
      go_at_call 70
      refine (HRS.out _).mono ?_
      rintro e v10 ⟨rfl, hb10⟩
      have hz10 := hb10.size
      try simp only [World.size_alloc, size_drewT] at hz10
      try go_simp
      refine hK.out _ _ ?_ (fun hHeld => ?_)
      · exact ⟨(hHeld.1).old hb10, (hHeld.2.1).old hb10, (hHeld.2.2.1).old hb10, (hHeld.2.2.2.1).old hb10, (hHeld.2.2.2.2).trans ((hb10).mono (hHeld.2.2.2.2).size)⟩
      clear hK K
      try simp only [zz]
      refine ta 11 19 hHeld ?_
      try simp only [zz]
      refine ta 12 31 hHeld ?_
      try simp only [zz]
      refine ta 13 32 hHeld ?_
      try simp only [zz]
      refine st2 14 (fun K hK => ?_)
      go_simp
      refine hK.out _ _ ?_ (fun hHeld => ?_)
      · exact ⟨(hHeld.1).old ((Below.refl _ _).alloc (Nat.le_refl _) _), (hHeld.2.1).old ((Below.refl _ _).alloc (Nat.le_refl _) _), (hHeld.2.2.1).old ((Below.refl _ _).alloc (Nat.le_refl _) _), (hHeld.2.2.2.1).old ((Below.refl _ _).alloc (Nat.le_refl _) _), (hHeld.2.2.2.2).trans ((((Below.refl _ _).alloc (Nat.le_refl _) _)).mono (hHeld.2.2.2.2).size)⟩
      clear hK K
      try simp only [zz]
      refine st2 15 (fun K hK => ?_)
      refine step_store_row rfl 35 _ _ rfl _ [.int .i64 z0, .int .i64 z1, .int .i64 z2, .int .i64 z3, .int .i64 z4, .int .i64 z5] rfl rfl 35 [.int .i64 0, .int .i64 0, .int .i64 0, .int .i64 0, .int .i64 0, .int .i64 0] ?_ (by kernel_rfl) rfl (by simp [Value.oneCell']) ?_
      · exact rwAB
      refine hK.out _ _ ?_ (fun hHeld => ?_)
      · exact ⟨hHeld.1.farRow (by (try simp only [World.size_alloc, size_drewT]); omega) _, hHeld.2.1.farRow (by (try simp only [World.size_alloc, size_drewT]); omega) _, hHeld.2.2.1.farN (by (try simp only [World.size_alloc, size_drewT]); omega) _, hHeld.2.2.2.1.farN (by (try simp only [World.size_alloc, size_drewT]); omega) _, Below.setRow hHeld.2.2.2.2 (by (try simp only [World.size_alloc, size_drewT]); omega) _⟩
      clear hK K
      try simp only [zz]
      refine ta 16 8 hHeld ?_
      try simp only [zz]
      refine wpAnyH_done (by kernel_rfl) ?_ _
      go_wp2_with fail
      go_meet
      exact ⟨_, rfl, rfl, rwAB, (by (try simp only [World.size_alloc, size_drewT]); omega), hHeld⟩
     ·
      go_simp
      refine hK.out _ _ ?_ (fun hHeld => ?_)
      · exact ⟨(hHeld.1).old ((Below.refl _ _).alloc (Nat.le_refl _) _), (hHeld.2.1).old ((Below.refl _ _).alloc (Nat.le_refl _) _), (hHeld.2.2.1).old ((Below.refl _ _).alloc (Nat.le_refl _) _), (hHeld.2.2.2.1).old ((Below.refl _ _).alloc (Nat.le_refl _) _), (hHeld.2.2.2.2).trans ((((Below.refl _ _).alloc (Nat.le_refl _) _)).mono (hHeld.2.2.2.2).size)⟩
      clear hK K
      try simp only [zz]
      refine st2 10 (fun K hK => ?_)
      go_simp
      go_at_call 70
      refine (HRS.out _).mono ?_
      rintro e v10 ⟨rfl, hb10⟩
      have hz10 := hb10.size
      try simp only [World.size_alloc, size_drewT] at hz10
      try go_simp
      refine hK.out _ _ ?_ (fun hHeld => ?_)
      · exact ⟨(hHeld.1).old hb10, (hHeld.2.1).old hb10, (hHeld.2.2.1).old hb10, (hHeld.2.2.2.1).old hb10, (hHeld.2.2.2.2).trans ((hb10).mono (hHeld.2.2.2.2).size)⟩
      clear hK K
      try simp only [zz]
      refine ta 11 19 hHeld ?_
      try simp only [zz]
      refine ta 12 31 hHeld ?_
      try simp only [zz]
      refine ta 13 32 hHeld ?_
      try simp only [zz]
      refine st2 15 (fun K hK => ?_)
      refine step_store_row rfl 35 _ _ rfl _ [.int .i64 z0, .int .i64 z1, .int .i64 z2, .int .i64 z3, .int .i64 z4, .int .i64 z5] rfl rfl 35 [.int .i64 0, .int .i64 0, .int .i64 0, .int .i64 0, .int .i64 0, .int .i64 0] ?_ (by kernel_rfl) rfl (by simp [Value.oneCell']) ?_
      · exact rwAB
      refine hK.out _ _ ?_ (fun hHeld => ?_)
      · exact ⟨hHeld.1.farRow (by (try simp only [World.size_alloc, size_drewT]); omega) _, hHeld.2.1.farRow (by (try simp only [World.size_alloc, size_drewT]); omega) _, hHeld.2.2.1.farN (by (try simp only [World.size_alloc, size_drewT]); omega) _, hHeld.2.2.2.1.farN (by (try simp only [World.size_alloc, size_drewT]); omega) _, Below.setRow hHeld.2.2.2.2 (by (try simp only [World.size_alloc, size_drewT]); omega) _⟩
      clear hK K
      try simp only [zz]
      refine ta 16 8 hHeld ?_
      try simp only [zz]
      refine wpAnyH_done (by kernel_rfl) ?_ _
      go_wp2_with fail
      go_meet
      exact ⟨_, rfl, rfl, rwAB, (by (try simp only [World.size_alloc, size_drewT]); omega), hHeld⟩
    ·
     go_simp
     refine hK.out _ _ ?_ (fun hHeld => ?_)
     · exact ⟨(hHeld.1).old ((Below.refl _ _).alloc (Nat.le_refl _) _), (hHeld.2.1).old ((Below.refl _ _).alloc (Nat.le_refl _) _), (hHeld.2.2.1).old ((Below.refl _ _).alloc (Nat.le_refl _) _), (hHeld.2.2.2.1).old ((Below.refl _ _).alloc (Nat.le_refl _) _), (hHeld.2.2.2.2).trans ((((Below.refl _ _).alloc (Nat.le_refl _) _)).mono (hHeld.2.2.2.2).size)⟩
     clear hK K
     try simp only [zz]
     refine st2 8 (fun K hK => ?_)
     go_simp
     go_at_call 105
     refine (HG2.out _).mono ?_
     rintro e v8 ⟨rfl, hb8⟩
     have hz8 := hb8.size
     try simp only [World.size_alloc, size_drewT] at hz8
     try go_simp
     refine hK.out _ _ ?_ (fun hHeld => ?_)
     · exact ⟨(hHeld.1).old hb8, (hHeld.2.1).old hb8, (hHeld.2.2.1).old hb8, (hHeld.2.2.2.1).old hb8, (hHeld.2.2.2.2).trans ((hb8).mono (hHeld.2.2.2.2).size)⟩
     clear hK K
     try simp only [zz]
     refine ta 9 29 hHeld ?_
     try simp only [zz]
     refine st2 10 (fun K hK => ?_)
     go_simp
     go_at_call 70
     refine (HRS.out _).mono ?_
     rintro e v10 ⟨rfl, hb10⟩
     have hz10 := hb10.size
     try simp only [World.size_alloc, size_drewT] at hz10
     try go_simp
     refine hK.out _ _ ?_ (fun hHeld => ?_)
     · exact ⟨(hHeld.1).old hb10, (hHeld.2.1).old hb10, (hHeld.2.2.1).old hb10, (hHeld.2.2.2.1).old hb10, (hHeld.2.2.2.2).trans ((hb10).mono (hHeld.2.2.2.2).size)⟩
     clear hK K
     try simp only [zz]
     refine ta 11 19 hHeld ?_
     try simp only [zz]
     refine ta 12 31 hHeld ?_
     try simp only [zz]
     refine ta 13 32 hHeld ?_
     try simp only [zz]
     refine st2 15 (fun K hK => ?_)
     refine step_store_row rfl 35 _ _ rfl _ [.int .i64 z0, .int .i64 z1, .int .i64 z2, .int .i64 z3, .int .i64 z4, .int .i64 z5] rfl rfl 35 [.int .i64 0, .int .i64 0, .int .i64 0, .int .i64 0, .int .i64 0, .int .i64 0] ?_ (by kernel_rfl) rfl (by simp [Value.oneCell']) ?_
     · exact rwAB
     refine hK.out _ _ ?_ (fun hHeld => ?_)
     · exact ⟨hHeld.1.farRow (by (try simp only [World.size_alloc, size_drewT]); omega) _, hHeld.2.1.farRow (by (try simp only [World.size_alloc, size_drewT]); omega) _, hHeld.2.2.1.farN (by (try simp only [World.size_alloc, size_drewT]); omega) _, hHeld.2.2.2.1.farN (by (try simp only [World.size_alloc, size_drewT]); omega) _, Below.setRow hHeld.2.2.2.2 (by (try simp only [World.size_alloc, size_drewT]); omega) _⟩
     clear hK K
     try simp only [zz]
     refine ta 16 8 hHeld ?_
     try simp only [zz]
     refine wpAnyH_done (by kernel_rfl) ?_ _
     go_wp2_with fail
     go_meet
     exact ⟨_, rfl, rfl, rwAB, (by (try simp only [World.size_alloc, size_drewT]); omega), hHeld⟩
   ·
    go_simp
    refine hK.out _ _ ?_ (fun hHeld => ?_)
    · exact ⟨(hHeld.1).old ((Below.refl _ _).alloc (Nat.le_refl _) _), (hHeld.2.1).old ((Below.refl _ _).alloc (Nat.le_refl _) _), (hHeld.2.2.1).old ((Below.refl _ _).alloc (Nat.le_refl _) _), (hHeld.2.2.2.1).old ((Below.refl _ _).alloc (Nat.le_refl _) _), (hHeld.2.2.2.2).trans ((((Below.refl _ _).alloc (Nat.le_refl _) _)).mono (hHeld.2.2.2.2).size)⟩
    clear hK K
    try simp only [zz]
    refine st2 5 (fun K hK => ?_)
    go_simp
    go_at_call 105
    refine (HG1.out _).mono ?_
    rintro e v5 ⟨rfl, hb5⟩
    have hz5 := hb5.size
    try simp only [World.size_alloc, size_drewT] at hz5
    try go_simp
    refine hK.out _ _ ?_ (fun hHeld => ?_)
    · exact ⟨(hHeld.1).old hb5, (hHeld.2.1).old hb5, (hHeld.2.2.1).old hb5, (hHeld.2.2.2.1).old hb5, (hHeld.2.2.2.2).trans ((hb5).mono (hHeld.2.2.2.2).size)⟩
    clear hK K
    try simp only [zz]
    refine st2 8 (fun K hK => ?_)
    go_simp
    go_at_call 105
    refine (HG2.out _).mono ?_
    rintro e v8 ⟨rfl, hb8⟩
    have hz8 := hb8.size
    try simp only [World.size_alloc, size_drewT] at hz8
    try go_simp
    refine hK.out _ _ ?_ (fun hHeld => ?_)
    · exact ⟨(hHeld.1).old hb8, (hHeld.2.1).old hb8, (hHeld.2.2.1).old hb8, (hHeld.2.2.2.1).old hb8, (hHeld.2.2.2.2).trans ((hb8).mono (hHeld.2.2.2.2).size)⟩
    clear hK K
    try simp only [zz]
    refine ta 9 29 hHeld ?_
    try simp only [zz]
    refine st2 10 (fun K hK => ?_)
    go_simp
    go_at_call 70
    refine (HRS.out _).mono ?_
    rintro e v10 ⟨rfl, hb10⟩
    have hz10 := hb10.size
    try simp only [World.size_alloc, size_drewT] at hz10
    try go_simp
    refine hK.out _ _ ?_ (fun hHeld => ?_)
    · exact ⟨(hHeld.1).old hb10, (hHeld.2.1).old hb10, (hHeld.2.2.1).old hb10, (hHeld.2.2.2.1).old hb10, (hHeld.2.2.2.2).trans ((hb10).mono (hHeld.2.2.2.2).size)⟩
    clear hK K
    try simp only [zz]
    refine ta 11 19 hHeld ?_
    try simp only [zz]
    refine ta 12 31 hHeld ?_
    try simp only [zz]
    refine ta 13 32 hHeld ?_
    try simp only [zz]
    refine st2 15 (fun K hK => ?_)
    refine step_store_row rfl 35 _ _ rfl _ [.int .i64 z0, .int .i64 z1, .int .i64 z2, .int .i64 z3, .int .i64 z4, .int .i64 z5] rfl rfl 35 [.int .i64 0, .int .i64 0, .int .i64 0, .int .i64 0, .int .i64 0, .int .i64 0] ?_ (by kernel_rfl) rfl (by simp [Value.oneCell']) ?_
    · exact rwAB
    refine hK.out _ _ ?_ (fun hHeld => ?_)
    · exact ⟨hHeld.1.farRow (by (try simp only [World.size_alloc, size_drewT]); omega) _, hHeld.2.1.farRow (by (try simp only [World.size_alloc, size_drewT]); omega) _, hHeld.2.2.1.farN (by (try simp only [World.size_alloc, size_drewT]); omega) _, hHeld.2.2.2.1.farN (by (try simp only [World.size_alloc, size_drewT]); omega) _, Below.setRow hHeld.2.2.2.2 (by (try simp only [World.size_alloc, size_drewT]); omega) _⟩
    clear hK K
    try simp only [zz]
    refine ta 16 8 hHeld ?_
    try simp only [zz]
    refine wpAnyH_done (by kernel_rfl) ?_ _
    go_wp2_with fail
    go_meet
    exact ⟨_, rfl, rfl, rwAB, (by (try simp only [World.size_alloc, size_drewT]); omega), hHeld⟩
  ·
   go_simp
   refine hK.out _ _ ?_ (fun hHeld => ?_)
   · exact ⟨(hHeld.1).old ((Below.refl _ _).alloc (Nat.le_refl _) _), (hHeld.2.1).old ((Below.refl _ _).alloc (Nat.le_refl _) _), (hHeld.2.2.1).old ((Below.refl _ _).alloc (Nat.le_refl _) _), (hHeld.2.2.2.1).old ((Below.refl _ _).alloc (Nat.le_refl _) _), (hHeld.2.2.2.2).trans ((((Below.refl _ _).alloc (Nat.le_refl _) _)).mono (hHeld.2.2.2.2).size)⟩
   clear hK K
   try simp only [zz]
   refine st2 2 (fun K hK => ?_)
   go_simp
   go_at_call 105
   refine (HG0.out _).mono ?_
   rintro e v2 ⟨rfl, hb2⟩
   have hz2 := hb2.size
   try simp only [World.size_alloc, size_drewT] at hz2
   try go_simp
   refine hK.out _ _ ?_ (fun hHeld => ?_)
   · exact ⟨(hHeld.1).old hb2, (hHeld.2.1).old hb2, (hHeld.2.2.1).old hb2, (hHeld.2.2.2.1).old hb2, (hHeld.2.2.2.2).trans ((hb2).mono (hHeld.2.2.2.2).size)⟩
   clear hK K
   try simp only [zz]
   refine st2 5 (fun K hK => ?_)
   go_simp
   go_at_call 105
   refine (HG1.out _).mono ?_
   rintro e v5 ⟨rfl, hb5⟩
   have hz5 := hb5.size
   try simp only [World.size_alloc, size_drewT] at hz5
   try go_simp
   refine hK.out _ _ ?_ (fun hHeld => ?_)
   · exact ⟨(hHeld.1).old hb5, (hHeld.2.1).old hb5, (hHeld.2.2.1).old hb5, (hHeld.2.2.2.1).old hb5, (hHeld.2.2.2.2).trans ((hb5).mono (hHeld.2.2.2.2).size)⟩
   clear hK K
   try simp only [zz]
   refine st2 8 (fun K hK => ?_)
   go_simp
   go_at_call 105
   refine (HG2.out _).mono ?_
   rintro e v8 ⟨rfl, hb8⟩
   have hz8 := hb8.size
   try simp only [World.size_alloc, size_drewT] at hz8
   try go_simp
   refine hK.out _ _ ?_ (fun hHeld => ?_)
   · exact ⟨(hHeld.1).old hb8, (hHeld.2.1).old hb8, (hHeld.2.2.1).old hb8, (hHeld.2.2.2.1).old hb8, (hHeld.2.2.2.2).trans ((hb8).mono (hHeld.2.2.2.2).size)⟩
   clear hK K
   try simp only [zz]
   refine ta 9 29 hHeld ?_
   try simp only [zz]
   refine st2 10 (fun K hK => ?_)
   go_simp
   go_at_call 70
   refine (HRS.out _).mono ?_
   rintro e v10 ⟨rfl, hb10⟩
   have hz10 := hb10.size
   try simp only [World.size_alloc, size_drewT] at hz10
   try go_simp
   refine hK.out _ _ ?_ (fun hHeld => ?_)
   · exact ⟨(hHeld.1).old hb10, (hHeld.2.1).old hb10, (hHeld.2.2.1).old hb10, (hHeld.2.2.2.1).old hb10, (hHeld.2.2.2.2).trans ((hb10).mono (hHeld.2.2.2.2).size)⟩
   clear hK K
   try simp only [zz]
   refine ta 11 19 hHeld ?_
   try simp only [zz]
   refine ta 12 31 hHeld ?_
   try simp only [zz]
   refine ta 13 32 hHeld ?_
   try simp only [zz]
   refine st2 15 (fun K hK => ?_)
   refine step_store_row rfl 35 _ _ rfl _ [.int .i64 z0, .int .i64 z1, .int .i64 z2, .int .i64 z3, .int .i64 z4, .int .i64 z5] rfl rfl 35 [.int .i64 0, .int .i64 0, .int .i64 0, .int .i64 0, .int .i64 0, .int .i64 0] ?_ (by kernel_rfl) rfl (by simp [Value.oneCell']) ?_
   · exact rwAB
   refine hK.out _ _ ?_ (fun hHeld => ?_)
   · exact ⟨hHeld.1.farRow (by (try simp only [World.size_alloc, size_drewT]); omega) _, hHeld.2.1.farRow (by (try simp only [World.size_alloc, size_drewT]); omega) _, hHeld.2.2.1.farN (by (try simp only [World.size_alloc, size_drewT]); omega) _, hHeld.2.2.2.1.farN (by (try simp only [World.size_alloc, size_drewT]); omega) _, Below.setRow hHeld.2.2.2.2 (by (try simp only [World.size_alloc, size_drewT]); omega) _⟩
   clear hK K
   try simp only [zz]
   refine ta 16 8 hHeld ?_
   try simp only [zz]
   refine wpAnyH_done (by kernel_rfl) ?_ _
   go_wp2_with fail
   go_meet
   exact ⟨_, rfl, rfl, rwAB, (by (try simp only [World.size_alloc, size_drewT]); omega), hHeld⟩
 case rest =>
 obtain ⟨g7, rfl, rfl, k7, h57, k5, k1, k2, k3, kb⟩ := hcut
 have HS7 : Hid (Row wc (g7) 35 [.int .i64 z0, .int .i64 z1, .int .i64 z2, .int .i64 z3, .int .i64 z4, .int .i64 z5] ∧ Row wc (g5) 114 [.complex .f64 e1 e2, .complex .f64 f1 f2, .complex .f64 g1 g2, .complex .f64 h1 h2] ∧ RowN wc (w.heap.size + 1) 35 6 ∧ RowN wc (w.heap.size + 1 + 1) 23 2 ∧ Below w.heap.size w wc) := ⟨k7, k5, k2, k3, kb⟩
 clear k7 k5 k1 k2 k3 kb HS1 HG0 HG1 HG2 HRS
 go_upto_region 7 with fail
 refine genT (fun V => Row V (g7) 35 [.int .i64 z0, .int .i64 z1, .int .i64 z2, .int .i64 z3, .int .i64 z4, .int .i64 z5] ∧ Row V (g5) 114 [.complex .f64 e1 e2, .complex .f64 f1 f2, .complex .f64 g1 g2, .complex .f64 h1 h2] ∧ RowN V (w.heap.size + 1) 35 6 ∧ RowN V (w.heap.size + 1 + 1) 23 2 ∧ Below w.heap.size w V) HS7.out ?_
 intro W2 s2
 have HS8 := Lib.hid s2
 clear s2 HS7
 refine wp_region_held_drew (S := fun V => Row V (g7) 35 [.int .i64 z0, .int .i64 z1, .int .i64 z2, .int .i64 z3, .int .i64 z4, .int .i64 z5] ∧ Row V (g5) 114 [.complex .f64 e1 e2, .complex .f64 f1 f2, .complex .f64 g1 g2, .complex .f64 h1 h2] ∧ RowN V (w.heap.size + 1) 35 6 ∧ RowN V (w.heap.size + 1 + 1) 23 2 ∧ Below w.heap.size w V) (by kernel_rfl) ?_ (fun hHeld => ?_)
 · exact ⟨(HS8.out.1).drew, (HS8.out.2.1).drew, (HS8.out.2.2.1).drew, (HS8.out.2.2.2.1).drew, (HS8.out.2.2.2.2).drew⟩
 refine tk 0 38 (.agg #[.int .i64 z0, .int .i64 z1, .int .i64 z2, .int .i64 z3, .int .i64 z4, .int .i64 z5]) rfl (by kernel_rfl) (fun _ _ _ h => h) (by kernel_rfl) (fun V hV => ex_rowT 35 _ rfl (g7) rfl 35 [.int .i64 z0, .int .i64 z1, .int .i64 z2, .int .i64 z3, .int .i64 z4, .int .i64 z5] _ Tryz.underlying35 rfl (by kernel_rfl) (hV.1)) hHeld ?_
 try simp only [zz]
 refine ta 1 39 hHeld ?_
 try simp only [zz]
 refine tk 2 40 ?_ rfl (by kernel_rfl) (fun _ _ _ h => h) (by kernel_rfl) ?_ hHeld ?_
 rotate_left
 · intro w1 hSw; (try dsimp only at hSw); have cc := (hSw.2.1).cell 3; simp only [List.getElem?_cons_succ, List.getElem?_cons_zero] at cc; go_simp <;> with_reducible rfl
 try simp only [zz]
 refine st2 3 (fun K hK => ?_)
 go_simp
 go_at_call 105
 refine (HG3.out _).mono ?_
 rintro e v3 ⟨rfl, hb3⟩
 try go_simp
 refine hK.out _ _ ?_ (fun hHeld => ?_)
 · exact ⟨(hHeld.1).old hb3, (hHeld.2.1).old hb3, (hHeld.2.2.1).old hb3, (hHeld.2.2.2.1).old hb3, (hHeld.2.2.2.2).trans ((hb3).mono (hHeld.2.2.2.2).size)⟩
 clear hK K
 try simp only [zz]
 refine st2 4 (fun K hK => ?_)
 obtain ⟨vs0, hvl0, hvr0⟩ := (hHeld.2.2.1)
 have hLast0 := hHeld
 refine step_store_row rfl 35 _ _ rfl (w.heap.size + 1) [.int .i64 z0, .int .i64 z1, .int .i64 z2, .int .i64 z3, .int .i64 z4, .int .i64 z5] rfl rfl 35 vs0 hvr0 (by kernel_rfl) hvl0 (by simp [Value.oneCell']) ?_
 refine hK.out _ _ ?_ (fun hHeld => ?_)
 · exact ⟨(hHeld.1).farRow (by omega) _, (hHeld.2.1).farRow (by omega) _, ⟨_, rfl, hvr0.setRow _⟩, (hHeld.2.2.2.1).farN (by omega) _, Below.setRow (hHeld.2.2.2.2) (by omega) _⟩
 clear hK K
 try simp only [zz]
 refine st2 5 (fun K hK => ?_)
 obtain ⟨vs1, hvl1, hvr1⟩ := (hHeld.2.2.2.1)
 have hLast1 := hHeld
 refine step_store_row rfl 23 _ _ rfl (w.heap.size + 1 + 1) [.int .i64 z6, .int .i64 z7] rfl rfl 23 vs1 hvr1 (by kernel_rfl) hvl1 (by simp [Value.oneCell']) ?_
 refine hK.out _ _ ?_ (fun hHeld => ?_)
 · exact ⟨(hHeld.1).farRow (by omega) _, (hHeld.2.1).farRow (by omega) _, (hHeld.2.2.1).farN (by omega) _, ⟨_, rfl, hvr1.setRow _⟩, Below.setRow (hHeld.2.2.2.2) (by omega) _⟩
 clear hK K
 try simp only [zz]
 refine ta 6 4 hHeld ?_
 try simp only [zz]
 refine wpAnyH_done (by kernel_rfl) ?_ _
 go_wp2_with fail
 refine bodyPost_ret (results_rrt rfl _ _ (w.heap.size + 1) (w.heap.size + 1 + 1) 35 23 #[.int .i64 z0, .int .i64 z1, .int .i64 z2, .int .i64 z3, .int .i64 z4, .int .i64 z5] #[.int .i64 z6, .int .i64 z7] (0, 0) (0, 0) _ _ rfl ((hvr0.setRow [.int .i64 z0, .int .i64 z1, .int .i64 z2, .int .i64 z3, .int .i64 z4, .int .i64 z5]).farRow (by omega) _) rfl (hvr1.setRow [.int .i64 z6, .int .i64 z7]) Tryz.underlying35 rfl (by kernel_rfl) Tryz.underlying23 rfl (by kernel_rfl)) rfl ⟨rfl, Below.setRow hLast1.2.2.2.2 (by omega) _⟩
set_option maxRecDepth 100000 in
set_option maxHeartbeats 4000000 in
theorem averaged_top (A : Option Addr) (n c : Nat) (Q : Array Value) (e1 e2 f1 f2 g1 g2 h1 h2 : Nat) (z0 z1 z2 z3 z4 z5 z6 z7 ee : Int) (w : World) (hn : 0 < n ∧ n ≤ 1000000) (HCL : ∀ W, Below w.heap.size w W → Calls Tryz.prog 50 #[.slice A n c, .int .i64 64, .func (.func 47) #[] #[]] W fun e w' => e = .returned (.int .i64 0) ∧ Below W.heap.size W w') (HSM : ∀ W, Below w.heap.size w W → Calls Tryz.prog 48 #[.slice A n c] W fun e w' => e = .returned (.agg Q) ∧ Below W.heap.size W w') (HOV : ∀ W, Below w.heap.size w W → Calls Tryz.prog 51 #[.agg Q, .int .i64 n] W fun e w' => e = .returned (.tuple #[.agg #[.complex .f64 e1 e2, .complex .f64 f1 f2, .complex .f64 g1 g2, .complex .f64 h1 h2], .bool true]) ∧ Below W.heap.size W w') (HRC : ∀ W, Below w.heap.size w W → Calls Tryz.prog 49 #[.agg #[.complex .f64 e1 e2, .complex .f64 f1 f2, .complex .f64 g1 g2, .complex .f64 h1 h2]] W fun e w' => e = .returned (.tuple #[.agg #[.int .i64 z0, .int .i64 z1, .int .i64 z2, .int .i64 z3, .int .i64 z4, .int .i64 z5], .agg #[.int .i64 z6, .int .i64 z7], .int .i64 ee]) ∧ Below W.heap.size W w') : Calls Tryz.prog 12 #[.slice A n c] w fun e' w' => e' = .returned (.tuple #[.agg #[.int .i64 z0, .int .i64 z1, .int .i64 z2, .int .i64 z3, .int .i64 z4, .int .i64 z5], .agg #[.int .i64 z6, .int .i64 z7], .int .i64 ee]) ∧ Below w.heap.size w w' := by
 have HCL := Lib.hid HCL; have HSM := Lib.hid HSM; have HOV := Lib.hid HOV; have HRC := Lib.hid HRC
 have hn0 : ¬ n = 0 := by omega
 have hn1 : ((n : Int) == 0) = false := by simp; omega
 have hn2 : ¬ (n : Int) = 0 := by omega
 go_enter Tryz.func12, Tryz.ntmps12
 go_upto_region 1 with fail
 refine genT (fun V => Row V (w.heap.size) 35 [.int .i64 0, .int .i64 0, .int .i64 0, .int .i64 0, .int .i64 0, .int .i64 0] ∧ Row V (w.heap.size + 1) 23 [.int .i64 0, .int .i64 0] ∧ Below w.heap.size w V) ⟨(Row.alloc (rowAt _ _ (by first | rfl | simp only [World.size_alloc])) _), (rowAt _ _ (by first | rfl | simp only [World.size_alloc])), (((Below.refl _ _).alloc (by first | exact Nat.le_refl _ | (simp only [World.size_alloc]; omega)) _).alloc (by first | exact Nat.le_refl _ | (simp only [World.size_alloc]; omega)) _)⟩ ?_
 intro W1 s1
 have HS1 := Lib.hid s1
 clear s1
 go_wp2_with fail
 refine (HCL.out _ HS1.out.2.2).mono ?_
 rintro e' w2 ⟨rfl, hb⟩
 have Hw2 : Hid (Row w2 (w.heap.size) 35 [.int .i64 0, .int .i64 0, .int .i64 0, .int .i64 0, .int .i64 0, .int .i64 0] ∧ Row w2 (w.heap.size + 1) 23 [.int .i64 0, .int .i64 0] ∧ Below w.heap.size w w2) := ⟨(HS1.out.1).old hb, (HS1.out.2.1).old hb, (HS1.out.2.2).trans (hb.mono (HS1.out.2.2).size)⟩
 clear hb HS1 HCL
 go_wp2_with fail
 refine (HSM.out _ Hw2.out.2.2).mono ?_
 rintro e' w4 ⟨rfl, hb⟩
 have Hw4 : Hid (Row w4 (w.heap.size) 35 [.int .i64 0, .int .i64 0, .int .i64 0, .int .i64 0, .int .i64 0, .int .i64 0] ∧ Row w4 (w.heap.size + 1) 23 [.int .i64 0, .int .i64 0] ∧ Below w.heap.size w w4) := ⟨(Hw2.out.1).old hb, (Hw2.out.2.1).old hb, (Hw2.out.2.2).trans (hb.mono (Hw2.out.2.2).size)⟩
 clear hb Hw2 HSM
 go_wp2_with fail
 refine (HOV.out _ Hw4.out.2.2).mono ?_
 rintro e' w5 ⟨rfl, hb⟩
 have Hw5 : Hid (Row w5 (w.heap.size) 35 [.int .i64 0, .int .i64 0, .int .i64 0, .int .i64 0, .int .i64 0, .int .i64 0] ∧ Row w5 (w.heap.size + 1) 23 [.int .i64 0, .int .i64 0] ∧ Below w.heap.size w w5) := ⟨(Hw4.out.1).old hb, (Hw4.out.2.1).old hb, (Hw4.out.2.2).trans (hb.mono (Hw4.out.2.2).size)⟩
 clear hb Hw4 HOV
 have HAL : Hid (Below w5.heap.size w5 (w5.alloc (.cells #[.complex .f64 e1 e2, .complex .f64 f1 f2, .complex .f64 g1 g2, .complex .f64 h1 h2] 114))) := (Below.refl _ _).alloc (Nat.le_refl _) _
 have HE5 : Hid (Row (w5.alloc (.cells #[.complex .f64 e1 e2, .complex .f64 f1 f2, .complex .f64 g1 g2, .complex .f64 h1 h2] 114)) (w.heap.size) 35 [.int .i64 0, .int .i64 0, .int .i64 0, .int .i64 0, .int .i64 0, .int .i64 0] ∧ Row (w5.alloc (.cells #[.complex .f64 e1 e2, .complex .f64 f1 f2, .complex .f64 g1 g2, .complex .f64 h1 h2] 114)) (w.heap.size + 1) 23 [.int .i64 0, .int .i64 0] ∧ Below w.heap.size w (w5.alloc (.cells #[.complex .f64 e1 e2, .complex .f64 f1 f2, .complex .f64 g1 g2, .complex .f64 h1 h2] 114))) := ⟨(Hw5.out.1).old HAL.out, (Hw5.out.2.1).old HAL.out, (Hw5.out.2.2).trans (HAL.out.mono (Hw5.out.2.2).size)⟩
 have HR5 := Lib.hid (Row.new w5 114 [.complex .f64 e1 e2, .complex .f64 f1 f2, .complex .f64 g1 g2, .complex .f64 h1 h2])
 clear Hw5 HAL
 go_wp2_with (refine wpList_load_row rfl 114 _ rfl (w5.heap.size) rfl 114 #[.complex .f64 e1 e2, .complex .f64 f1 f2, .complex .f64 g1 g2, .complex .f64 h1 h2] (0, 0) _ HR5.out Tryz.underlying114 rfl ?_ ?_; (kernel_rfl))
 refine (HRC.out _ HE5.out.2.2).mono ?_
 rintro e' w6 ⟨rfl, hb⟩
 have Hw6 : Hid (Row w6 (w.heap.size) 35 [.int .i64 0, .int .i64 0, .int .i64 0, .int .i64 0, .int .i64 0, .int .i64 0] ∧ Row w6 (w.heap.size + 1) 23 [.int .i64 0, .int .i64 0] ∧ Below w.heap.size w w6) := ⟨(HE5.out.1).old hb, (HE5.out.2.1).old hb, (HE5.out.2.2).trans (hb.mono (HE5.out.2.2).size)⟩
 clear hb HE5 HRC
 have hz2 := (Hw6.out.2.1.farRow (show w.heap.size + 1 ≠ w.heap.size by omega) #[.int .i64 z0, .int .i64 z1, .int .i64 z2, .int .i64 z3, .int .i64 z4, .int .i64 z5])
 go_wp2_with (first
  | (refine wpList_store_row rfl 35 _ _ rfl (w.heap.size) #[.int .i64 z0, .int .i64 z1, .int .i64 z2, .int .i64 z3, .int .i64 z4, .int .i64 z5] rfl rfl 35 _ Hw6.out.1 ?_ ?_ ?_ ?_; (kernel_rfl); (rfl); (simp [Value.oneCell']))
  | (refine wpList_store_row rfl 23 _ _ rfl (w.heap.size + 1) #[.int .i64 z6, .int .i64 z7] rfl rfl 23 _ hz2 ?_ ?_ ?_ ?_; (kernel_rfl); (rfl); (simp [Value.oneCell'])))
 refine bodyPost_ret (results_rrt rfl _ _ (w.heap.size) (w.heap.size + 1) 35 23 #[.int .i64 z0, .int .i64 z1, .int .i64 z2, .int .i64 z3, .int .i64 z4, .int .i64 z5] #[.int .i64 z6, .int .i64 z7] (0, 0) (0, 0) _ _ rfl ((Hw6.out.1.setRow [.int .i64 z0, .int .i64 z1, .int .i64 z2, .int .i64 z3, .int .i64 z4, .int .i64 z5]).farRow (by omega) _) rfl (hz2.setRow [.int .i64 z6, .int .i64 z7]) Tryz.underlying35 rfl (by kernel_rfl) Tryz.underlying23 rfl (by kernel_rfl)) rfl ⟨rfl, Below.setRow (Below.setRow Hw6.out.2.2 (by omega) _) (by omega) _⟩
set_option maxRecDepth 100000
set_option maxHeartbeats 4000000
theorem mappedP_any (A : Option Addr) (c : Nat) (l : List P4) (p : P4 → Int) (F : Nat) (bs : Array Value) (w : World) (hA : Rd w A (panC l)) (hm : l.length ≤ 1000000)
 (hF : ∀ k (h : k < l.length) W, Below w.heap.size w W → Calls Tryz.prog F (#[.agg #[.complex .f32 l[k].a.1 l[k].a.2, .complex .f32 l[k].b.1 l[k].b.2, .complex .f32 l[k].c.1 l[k].c.2, .complex .f32 l[k].d.1 l[k].d.2]] ++ bs) W fun e w' => e = .returned (.int .i64 (p l[k])) ∧ Below W.heap.size W w') (eg : ∀ args w, (callFunc F args).run Tryz.prog w = .ok (.enter F args) w) :
 Calls Tryz.prog 140 #[.slice A l.length c, .func (.func F) #[] bs] w fun e w' => e = .returned (.slice (some ⟨w.heap.size, 0, none⟩) l.length l.length) ∧ Row w' w.heap.size 32 (ints (l.map p)) ∧ Below w.heap.size w w' := by
 have HF := Lib.hid hF; have HA := Lib.hid hA
 have hmk := fun W : World => make1 (P := Tryz.prog) 180 32 (.int .i64 0) 8 Tryz.underlying180 (by kernel_rfl) rfl l.length (by omega) (by omega) W
 clear hF hA
 go_enter Tryz.func140, Tryz.ntmps140
 go_wp2
 go_loopw [13] (fun i wr => ∃ k : Nat, k ≤ l.length ∧ i = .int .i64 k ∧ Row wr w.heap.size 32 (ints ((l.map p).take k) ++ List.replicate (l.length - k) (.int .i64 0)) ∧ Below w.heap.size w wr) (fun i _ => l.length - (intOf i).toNat)
 case atStart => exact ⟨0, Nat.zero_le _, rfl, by have := Row.new w 32 (List.replicate l.length (.int .i64 0)); simpa [ints] using this, (Below.refl _ _).alloc (Nat.le_refl _) _⟩
 case round =>
  obtain ⟨k, hk, rfl, hrow, hb⟩ := hrel
  by_cases hlt : k < l.length
  · obtain ⟨b0, off, rfl, q0, q1, q2, q3⟩ := Rd.pan (HA.out.below hb) hlt
    have hset := Lib.hid (part_set (l.map p) l.length k (by simpa using hlt) (by simp))
    have hfk := Lib.hid (show (l.map p)[k]'(by simpa using hlt) = p l[k] by simp)
    have HFk := Lib.hid (HF.out k hlt)
    obtain ⟨E1, hE1⟩ : ∃ E1, E1 = p l[k] := ⟨_, rfl⟩
    rw [← hE1] at HFk hfk
    obtain ⟨⟨⟨a1, a2⟩, ⟨b1, b2⟩, ⟨c1, c2⟩, ⟨d1, d2⟩⟩, hs⟩ : ∃ s, s = l[k] := ⟨_, rfl⟩
    rw [← hs] at q0 q1 q2 q3 HFk
    dsimp only at q0 q1 q2 q3 HFk
    have hbn : Below wr.heap.size wr (wr.alloc (.cells #[.complex .f32 a1 a2, .complex .f32 b1 b2, .complex .f32 c1 c2, .complex .f32 d1 d2] 31)) := (Below.refl _ _).alloc (Nat.le_refl _) _
    have Hrow := Lib.hid (hrow.old hbn)
    have Hb := Lib.hid (hb.trans (hbn.mono hb.size))
    have Hn : Hid (Row (wr.alloc (.cells #[.complex .f32 a1 a2, .complex .f32 b1 b2, .complex .f32 c1 c2, .complex .f32 d1 d2] 31)) wr.heap.size 31 [.complex .f32 a1 a2, .complex .f32 b1 b2, .complex .f32 c1 c2, .complex .f32 d1 d2]) := Row.new _ _ _
    clear hrow hb hs hE1 hbn
    go_wp2_with (refine wpList_load_row rfl 31 _ rfl (wr.heap.size) rfl 31 #[.complex .f32 a1 a2, .complex .f32 b1 b2, .complex .f32 c1 c2, .complex .f32 d1 d2] (0, 0) _ Hn.out Tryz.underlying31 rfl ?_ ?_; (kernel_rfl))
    refine (HFk.out _ Hb.out).mono ?_
    rintro e w1 ⟨rfl, hb1⟩
    have Hrow1 := Lib.hid (Hrow.out.old hb1)
    have hc1 : w1.cell? ⟨w.heap.size, k, none⟩ = some (.int .i64 0) := by
     rw [Hrow1.out.cell]
     exact mid_get _ _ _ _ (by simp [ints]; omega) hlt
    have hf1 := Hrow1.out.free k
    have Hb1 := Lib.hid (Hb.out.trans (hb1.mono Hb.out.size))
    clear hb1 q0 q1 q2 q3
    go_wp2
    go_roundw
    case rel => exact ⟨k + 1, by omega, by go_num, by rw [← hset.out, hfk.out]; exact Hrow1.out.set k _, Hb1.out.setCell (by simp) _⟩
    case measure => simp [intOf]; omega
  · obtain rfl : k = l.length := by omega
    go_wp2
    go_ret
    exact ⟨rfl, by rw [Nat.sub_self, List.replicate_zero, List.append_nil, List.take_of_length_le (by simp)] at hrow; exact hrow, hb⟩
theorem checkListP_any (A : Option Addr) (c : Nat) (l : List P4) (p : P4 → Int) (F : Nat) (bs : Array Value) (w : World) (hA : Rd w A (panC l)) (hm : l.length ≤ 64)
 (hF : ∀ k (h : k < l.length) W, Below w.heap.size w W → Calls Tryz.prog F (#[.agg #[.complex .f32 l[k].a.1 l[k].a.2, .complex .f32 l[k].b.1 l[k].b.2, .complex .f32 l[k].c.1 l[k].c.2, .complex .f32 l[k].d.1 l[k].d.2]] ++ bs) W fun e w' => e = .returned (.int .i64 (p l[k])) ∧ Below W.heap.size W w') (eg : ∀ args w, (callFunc F args).run Tryz.prog w = .ok (.enter F args) w) :
 Calls Tryz.prog 106 #[.slice A l.length c, .int .i64 64, .func (.func F) #[] bs] w fun e w' => e = .returned (.int .i64 (firstI (l.map p))) ∧ Below w.heap.size w w' := by
 have HM := Lib.hid (mappedP_any A c l p F bs w hA (by omega) hF eg)
 have hle : ¬ (64 : Int) < (l.length : Int) := by omega
 have hlm : (l.map p).length = l.length := List.length_map _
 clear hA hF eg
 go_enter Tryz.func106, Tryz.ntmps106
 go_wp2_with fail
 refine HM.out.mono ?_
 rintro e w1 ⟨rfl, hr1, hb1⟩
 have HB1 := Lib.hid hb1
 have HR1 := Lib.hid hr1
 clear hr1 hb1
 go_wp2_with fail
 refine (firstV_any _ _ _ (l.map p) _ (Rd.row HR1.out) hlm.symm (by omega)).mono ?_
 rintro e w3 ⟨rfl, rfl⟩
 go_wp2
 go_ret
 exact ⟨rfl, HB1.out⟩
theorem checkSomeP_any (A : Option Addr) (c n : Nat) (E : Int) (F : Nat) (bs : Array Value) (w : World) (hn : 0 < n)
 (hC : ∀ W, Below w.heap.size w W → Calls Tryz.prog 106 #[.slice A n c, .int .i64 64, .func (.func F) #[] bs] W fun e w' => e = .returned (.int .i64 E) ∧ Below W.heap.size W w') :
 Calls Tryz.prog 50 #[.slice A n c, .int .i64 64, .func (.func F) #[] bs] w fun e w' => e = .returned (.int .i64 E) ∧ Below w.heap.size w w' := by
 have HC := Lib.hid hC
 have hn1 : ((n : Int) == 0) = false := by simp; omega
 have hn2 : ¬ (n : Int) = 0 := by omega
 clear hC hn
 go_enter Tryz.func50, Tryz.ntmps50
 go_wp2_with fail
 refine (failed_any _ _ _).mono ?_
 rintro e w1 ⟨rfl, rfl⟩
 go_wp2_with fail
 refine (HC.out _ (Below.refl _ _)).mono ?_
 rintro e w2 ⟨rfl, hb2⟩
 have HB := Lib.hid hb2
 clear hb2
 go_wp2_with fail
 refine (firstV_any _ _ _ [whenI false 12, E] _ ?_ rfl (by simp)).mono ?_
 · exact Rd.newT (t := 32)
 rintro e w3 ⟨rfl, rfl⟩
 have hf : firstI [whenI false 12, E] = E := by
  have h0 : whenI false 12 = 0 := rfl
  simp only [firstI, h0, if_true]
  split <;> simp_all
 rw [hf]
 go_wp2
 go_ret
 exact ⟨rfl, HB.out.alloc HB.out.size _⟩
end Go.Proofs.YtaknlhepgeiekaaGreatDoor
