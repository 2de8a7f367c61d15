import Derived.Test.YtlflfieknibgmaaGreatDoorM33
namespace Go.Proofs.YtlflfieknibgmaaGreatDoor
set_option linter.all false
open Go.RowKit Go.Fl
set_option maxRecDepth 100000 in
set_option maxHeartbeats 8000000 in
theorem received_by (a1 a2 b1 b2 c1 c2 d1 d2 e1 e2 f1 f2 g1 g2 h1 h2 : Nat) (Q : Array Value) (x0 x1 x2 x3 x4 x5 z0 z1 z2 z3 z4 z5 z6 z7 : Int) (w : World) (HPA : ∀ W, Calls Tryz.prog 112 #[.agg #[.complex .f64 a1 a2, .complex .f64 b1 b2, .complex .f64 c1 c2, .complex .f64 d1 d2]] W fun e w' => e = .returned (.agg Q) ∧ Below W.heap.size W w') (HOV : ∀ W, Calls Tryz.prog 113 #[.agg Q, .int .i64 4] W fun e w' => e = .returned (.tuple #[.agg #[.complex .f64 e1 e2, .complex .f64 f1 f2, .complex .f64 g1 g2, .complex .f64 h1 h2], .bool true]) ∧ Below W.heap.size W w') (HG0 : ∀ W, Calls Tryz.prog 102 #[.complex .f64 e1 e2] W fun e w' => e = .returned (.agg #[.int .i64 x0, .int .i64 x1]) ∧ Below W.heap.size W w') (HG1 : ∀ W, Calls Tryz.prog 102 #[.complex .f64 f1 f2] W fun e w' => e = .returned (.agg #[.int .i64 x2, .int .i64 x3]) ∧ Below W.heap.size W w') (HG2 : ∀ W, Calls Tryz.prog 102 #[.complex .f64 g1 g2] W fun e w' => e = .returned (.agg #[.int .i64 x4, .int .i64 x5]) ∧ Below W.heap.size W w') (HG3 : ∀ W, Calls Tryz.prog 102 #[.complex .f64 h1 h2] W fun e w' => e = .returned (.agg #[.int .i64 z6, .int .i64 z7]) ∧ Below W.heap.size W w') (HRS : ∀ W, Calls Tryz.prog 42 #[.agg #[.int .i64 x0, .int .i64 x1, .int .i64 x2, .int .i64 x3, .int .i64 x4, .int .i64 x5]] W fun e w' => e = .returned (.tuple #[.agg #[.int .i64 z0, .int .i64 z1, .int .i64 z2, .int .i64 z3, .int .i64 z4, .int .i64 z5], .int .i64 0]) ∧ Below W.heap.size W w') : Calls Tryz.prog 52 #[.agg #[.complex .f64 a1 a2, .complex .f64 b1 b2, .complex .f64 c1 c2, .complex .f64 d1 d2]] w fun e w' => e = .returned (.tuple #[.agg #[.int .i64 z0, .int .i64 z1, .int .i64 z2, .int .i64 z3, .int .i64 z4, .int .i64 z5], .agg #[.int .i64 z6, .int .i64 z7], .int .i64 0]) ∧ Below w.heap.size w w' := by
  have HPA := Lib.hid HPA; have HOV := Lib.hid HOV; have HG0 := Lib.hid HG0; have HG1 := Lib.hid HG1; have HG2 := Lib.hid HG2; have HG3 := Lib.hid HG3; have HRS := Lib.hid HRS
  go_enter Tryz.func52, Tryz.ntmps52
  go_upto_region 1 with fail
  refine genT (fun V => Row V (w.heap.size) 129 [.complex .f64 a1 a2, .complex .f64 b1 b2, .complex .f64 c1 c2, .complex .f64 d1 d2] ∧ Row V (w.heap.size + 1) 34 [.int .i64 0, .int .i64 0, .int .i64 0, .int .i64 0, .int .i64 0, .int .i64 0] ∧ Row V (w.heap.size + 1 + 1) 25 [.int .i64 0, .int .i64 0] ∧ Below w.heap.size w V) ⟨(Row.alloc (Row.alloc (rowAt _ _ (by first | rfl | simp only [World.size_alloc])) _) _), (Row.alloc (rowAt _ _ (by first | rfl | simp only [World.size_alloc])) _), (rowAt _ _ (by first | rfl | simp only [World.size_alloc])), ((((Below.refl _ _).alloc (by first | exact Nat.le_refl _ | (simp only [World.size_alloc]; omega)) _).alloc (by first | exact Nat.le_refl _ | (simp only [World.size_alloc]; omega)) _).alloc (by first | exact Nat.le_refl _ | (simp only [World.size_alloc]; omega)) _)⟩ ?_
  intro W1 s1
  have HS1 := Lib.hid s1
  clear s1
  go_wp2_with (refine wpList_load_row rfl 129 _ rfl (w.heap.size) rfl 129 #[.complex .f64 a1 a2, .complex .f64 b1 b2, .complex .f64 c1 c2, .complex .f64 d1 d2] (0, 0) _ HS1.out.1 Tryz.underlying129 rfl ?_ ?_; (kernel_rfl))
  refine (HPA.out _).mono ?_
  rintro e w2 ⟨rfl, hb2⟩
  have HS2 : Hid (Row w2 (w.heap.size) 129 [.complex .f64 a1 a2, .complex .f64 b1 b2, .complex .f64 c1 c2, .complex .f64 d1 d2] ∧ Row w2 (w.heap.size + 1) 34 [.int .i64 0, .int .i64 0, .int .i64 0, .int .i64 0, .int .i64 0, .int .i64 0] ∧ Row w2 (w.heap.size + 1 + 1) 25 [.int .i64 0, .int .i64 0] ∧ Below w.heap.size w w2) := ⟨(HS1.out.1).old hb2, (HS1.out.2.1).old hb2, (HS1.out.2.2.1).old hb2, (HS1.out.2.2.2).trans (hb2.mono (HS1.out.2.2.2).size)⟩
  clear hb2 HS1 HPA
  go_wp2_with fail
  refine (HOV.out _).mono ?_
  rintro e w3 ⟨rfl, hb3⟩
  have HS3 : Hid (Row w3 (w.heap.size) 129 [.complex .f64 a1 a2, .complex .f64 b1 b2, .complex .f64 c1 c2, .complex .f64 d1 d2] ∧ Row w3 (w.heap.size + 1) 34 [.int .i64 0, .int .i64 0, .int .i64 0, .int .i64 0, .int .i64 0, .int .i64 0] ∧ Row w3 (w.heap.size + 1 + 1) 25 [.int .i64 0, .int .i64 0] ∧ Below w.heap.size w w3) := ⟨(HS2.out.1).old hb3, (HS2.out.2.1).old hb3, (HS2.out.2.2.1).old hb3, (HS2.out.2.2.2).trans (hb3.mono (HS2.out.2.2.2).size)⟩
  clear hb3 HS2 HOV
  have HAL : Hid (Below w3.heap.size w3 (w3.alloc (.cells #[.complex .f64 e1 e2, .complex .f64 f1 f2, .complex .f64 g1 g2, .complex .f64 h1 h2] 129))) := (Below.refl _ _).alloc (Nat.le_refl _) _
  have HS4 : Hid (Row (w3.alloc (.cells #[.complex .f64 e1 e2, .complex .f64 f1 f2, .complex .f64 g1 g2, .complex .f64 h1 h2] 129)) w3.heap.size 129 [.complex .f64 e1 e2, .complex .f64 f1 f2, .complex .f64 g1 g2, .complex .f64 h1 h2] ∧ Row (w3.alloc (.cells #[.complex .f64 e1 e2, .complex .f64 f1 f2, .complex .f64 g1 g2, .complex .f64 h1 h2] 129)) (w.heap.size) 129 [.complex .f64 a1 a2, .complex .f64 b1 b2, .complex .f64 c1 c2, .complex .f64 d1 d2] ∧ Row (w3.alloc (.cells #[.complex .f64 e1 e2, .complex .f64 f1 f2, .complex .f64 g1 g2, .complex .f64 h1 h2] 129)) (w.heap.size + 1) 34 [.int .i64 0, .int .i64 0, .int .i64 0, .int .i64 0, .int .i64 0, .int .i64 0] ∧ Row (w3.alloc (.cells #[.complex .f64 e1 e2, .complex .f64 f1 f2, .complex .f64 g1 g2, .complex .f64 h1 h2] 129)) (w.heap.size + 1 + 1) 25 [.int .i64 0, .int .i64 0] ∧ Below w.heap.size w (w3.alloc (.cells #[.complex .f64 e1 e2, .complex .f64 f1 f2, .complex .f64 g1 g2, .complex .f64 h1 h2] 129))) := ⟨Row.new w3 129 [.complex .f64 e1 e2, .complex .f64 f1 f2, .complex .f64 g1 g2, .complex .f64 h1 h2], (HS3.out.1).old HAL.out, (HS3.out.2.1).old HAL.out, (HS3.out.2.2.1).old HAL.out, (HS3.out.2.2.2).trans (HAL.out.mono (HS3.out.2.2.2).size)⟩
  have hzl : w.heap.size + 1 + 1 < w3.heap.size := HS3.out.2.2.1.lt
  obtain ⟨g5, hg5⟩ : ∃ g5, g5 = w3.heap.size := ⟨_, rfl⟩
  rw [← hg5] at hzl
  have HS5 : Hid (Row (w3.alloc (.cells #[.complex .f64 e1 e2, .complex .f64 f1 f2, .complex .f64 g1 g2, .complex .f64 h1 h2] 129)) (g5) 129 [.complex .f64 e1 e2, .complex .f64 f1 f2, .complex .f64 g1 g2, .complex .f64 h1 h2] ∧ Row (w3.alloc (.cells #[.complex .f64 e1 e2, .complex .f64 f1 f2, .complex .f64 g1 g2, .complex .f64 h1 h2] 129)) (w.heap.size) 129 [.complex .f64 a1 a2, .complex .f64 b1 b2, .complex .f64 c1 c2, .complex .f64 d1 d2] ∧ RowN (w3.alloc (.cells #[.complex .f64 e1 e2, .complex .f64 f1 f2, .complex .f64 g1 g2, .complex .f64 h1 h2] 129)) (w.heap.size + 1) 34 6 ∧ RowN (w3.alloc (.cells #[.complex .f64 e1 e2, .complex .f64 f1 f2, .complex .f64 g1 g2, .complex .f64 h1 h2] 129)) (w.heap.size + 1 + 1) 25 2 ∧ Below w.heap.size w (w3.alloc (.cells #[.complex .f64 e1 e2, .complex .f64 f1 f2, .complex .f64 g1 g2, .complex .f64 h1 h2] 129))) := by
    rw [hg5]; exact ⟨HS4.out.1, HS4.out.2.1, ⟨_, rfl, HS4.out.2.2.1⟩, ⟨_, rfl, HS4.out.2.2.2.1⟩, HS4.out.2.2.2.2⟩
  clear HS3 HS4 HAL
  go_upto_region 4 with fail
  rw [← hg5]
  refine genT (fun V => Row V (g5) 129 [.complex .f64 e1 e2, .complex .f64 f1 f2, .complex .f64 g1 g2, .complex .f64 h1 h2] ∧ Row V (w.heap.size) 129 [.complex .f64 a1 a2, .complex .f64 b1 b2, .complex .f64 c1 c2, .complex .f64 d1 d2] ∧ RowN V (w.heap.size + 1) 34 6 ∧ RowN V (w.heap.size + 1 + 1) 25 2 ∧ Below w.heap.size w V) HS5.out ?_
  intro W1 s1
  have HS1 := Lib.hid s1
  have hw1 : g5 < W1.heap.size := HS1.out.1.lt
  clear s1 HS5 hg5
  go_cut [7, 8] from 19 to 32 (fun s7 s8 wx => ∃ g7, s7 = .pointer (some ⟨g7, 0, none⟩) ∧ s8 = .int .i64 0 ∧ Row wx g7 34 [.int .i64 z0, .int .i64 z1, .int .i64 z2, .int .i64 z3, .int .i64 z4, .int .i64 z5] ∧ g5 < g7 ∧ Row wx (g5) 129 [.complex .f64 e1 e2, .complex .f64 f1 f2, .complex .f64 g1 g2, .complex .f64 h1 h2] ∧ Row wx (w.heap.size) 129 [.complex .f64 a1 a2, .complex .f64 b1 b2, .complex .f64 c1 c2, .complex .f64 d1 d2] ∧ RowN wx (w.heap.size + 1) 34 6 ∧ RowN wx (w.heap.size + 1 + 1) 25 2 ∧ Below w.heap.size w wx)
  case first =>
    clear HG3
    refine wp_region_held_drew (S := fun V => Row V (g5) 129 [.complex .f64 e1 e2, .complex .f64 f1 f2, .complex .f64 g1 g2, .complex .f64 h1 h2] ∧ Row V (w.heap.size) 129 [.complex .f64 a1 a2, .complex .f64 b1 b2, .complex .f64 c1 c2, .complex .f64 d1 d2] ∧ RowN V (w.heap.size + 1) 34 6 ∧ RowN V (w.heap.size + 1 + 1) 25 2 ∧ Below w.heap.size w V) (by kernel_rfl) ?_ (fun hHeld => ?_)
    · exact ⟨(HS1.out.1).drew, (HS1.out.2.1).drew, (HS1.out.2.2.1).drew, (HS1.out.2.2.2.1).drew, (HS1.out.2.2.2.2).drew⟩
    refine wpAnyH_take (i := 0) (oi := ⟨some 20, _, _, _, _, _⟩) (v := ?_) rfl (by kernel_rfl) (by kernel_rfl) (by kernel_rfl) (fun _ _ _ h => h) (Or.inl ⟨by kernel_rfl, ?_⟩) hHeld ?_
    rotate_left
    · intro w1 hSw; (try dsimp only at hSw); go_simp <;> with_reducible rfl
    try simp only [Act.put, List.setIfInBounds_toArray, List.set_cons_zero, List.set_cons_succ]
    refine wpAnyH_take (i := 1) (oi := ⟨some 21, _, _, _, _, _⟩) (v := ?_) rfl (by kernel_rfl) (by kernel_rfl) (by kernel_rfl) (fun _ _ _ h => h) (Or.inl ⟨by kernel_rfl, ?_⟩) hHeld ?_
    rotate_left
    · intro w1 hSw; (try dsimp only at hSw); have cc := (hSw.1).cell 0; simp only [List.getElem?_cons_succ, List.getElem?_cons_zero] at cc; go_simp <;> with_reducible rfl
    try simp only [Act.put, List.setIfInBounds_toArray, List.set_cons_zero, List.set_cons_succ]
    refine wpAnyH_take (i := 3) (oi := ⟨some 23, _, _, _, _, _⟩) (v := ?_) rfl (by kernel_rfl) (by kernel_rfl) (by kernel_rfl) (fun _ _ _ h => h) (Or.inl ⟨by kernel_rfl, ?_⟩) hHeld ?_
    rotate_left
    · intro w1 hSw; (try dsimp only at hSw); go_simp <;> with_reducible rfl
    try simp only [Act.put, List.setIfInBounds_toArray, List.set_cons_zero, List.set_cons_succ]
    refine wpAnyH_take (i := 4) (oi := ⟨some 24, _, _, _, _, _⟩) (v := ?_) rfl (by kernel_rfl) (by kernel_rfl) (by kernel_rfl) (fun _ _ _ h => h) (Or.inl ⟨by kernel_rfl, ?_⟩) hHeld ?_
    rotate_left
    · intro w1 hSw; (try dsimp only at hSw); have cc := (hSw.1).cell 1; simp only [List.getElem?_cons_succ, List.getElem?_cons_zero] at cc; go_simp <;> with_reducible rfl
    try simp only [Act.put, List.setIfInBounds_toArray, List.set_cons_zero, List.set_cons_succ]
    refine wpAnyH_take (i := 6) (oi := ⟨some 26, _, _, _, _, _⟩) (v := ?_) rfl (by kernel_rfl) (by kernel_rfl) (by kernel_rfl) (fun _ _ _ h => h) (Or.inl ⟨by kernel_rfl, ?_⟩) hHeld ?_
    rotate_left
    · intro w1 hSw; (try dsimp only at hSw); go_simp <;> with_reducible rfl
    try simp only [Act.put, List.setIfInBounds_toArray, List.set_cons_zero, List.set_cons_succ]
    refine wpAnyH_take (i := 7) (oi := ⟨some 27, _, _, _, _, _⟩) (v := ?_) rfl (by kernel_rfl) (by kernel_rfl) (by kernel_rfl) (fun _ _ _ h => h) (Or.inl ⟨by kernel_rfl, ?_⟩) hHeld ?_
    rotate_left
    · intro w1 hSw; (try dsimp only at hSw); have cc := (hSw.1).cell 2; simp only [List.getElem?_cons_succ, List.getElem?_cons_zero] at cc; go_simp <;> with_reducible rfl
    try simp only [Act.put, List.setIfInBounds_toArray, List.set_cons_zero, List.set_cons_succ]
    refine wpAnyH_ready (rs := [2, 14]) (by kernel_rfl) (by simp) ?_
    refine AllReadyH.cons rfl (fun K hK => ?_) (AllReadyH.cons rfl (fun K hK => ?_) (AllReadyH.nil))
    ·
      go_simp
      go_at_call 102
      refine (HG0.out _).mono ?_
      rintro e v2 ⟨rfl, hb2⟩
      have hz2 := hb2.size
      try simp only [World.size_alloc, size_drewT] at hz2
      try go_simp
      refine hK.out _ _ ?_ (fun hHeld => ?_)
      · exact ⟨(hHeld.1).old hb2, (hHeld.2.1).old hb2, (hHeld.2.2.1).old hb2, (hHeld.2.2.2.1).old hb2, (hHeld.2.2.2.2).trans ((hb2).mono (hHeld.2.2.2.2).size)⟩
      clear hK K
      try simp only [Act.put, List.setIfInBounds_toArray, List.set_cons_zero, List.set_cons_succ]
      refine wpAnyH_ready (rs := [5, 14]) (by kernel_rfl) (by simp) ?_
      refine AllReadyH.cons rfl (fun K hK => ?_) (AllReadyH.cons rfl (fun K hK => ?_) (AllReadyH.nil))
      ·
        go_simp
        go_at_call 102
        refine (HG1.out _).mono ?_
        rintro e v5 ⟨rfl, hb5⟩
        have hz5 := hb5.size
        try simp only [World.size_alloc, size_drewT] at hz5
        try go_simp
        refine hK.out _ _ ?_ (fun hHeld => ?_)
        · exact ⟨(hHeld.1).old hb5, (hHeld.2.1).old hb5, (hHeld.2.2.1).old hb5, (hHeld.2.2.2.1).old hb5, (hHeld.2.2.2.2).trans ((hb5).mono (hHeld.2.2.2.2).size)⟩
        clear hK K
        try simp only [Act.put, List.setIfInBounds_toArray, List.set_cons_zero, List.set_cons_succ]
        refine wpAnyH_ready (rs := [8, 14]) (by kernel_rfl) (by simp) ?_
        refine AllReadyH.cons rfl (fun K hK => ?_) (AllReadyH.cons rfl (fun K hK => ?_) (AllReadyH.nil))
        ·
          go_simp
          go_at_call 102
          refine (HG2.out _).mono ?_
          rintro e v8 ⟨rfl, hb8⟩
          have hz8 := hb8.size
          try simp only [World.size_alloc, size_drewT] at hz8
          try go_simp
          refine hK.out _ _ ?_ (fun hHeld => ?_)
          · exact ⟨(hHeld.1).old hb8, (hHeld.2.1).old hb8, (hHeld.2.2.1).old hb8, (hHeld.2.2.2.1).old hb8, (hHeld.2.2.2.2).trans ((hb8).mono (hHeld.2.2.2.2).size)⟩
          clear hK K
          try simp only [Act.put, List.setIfInBounds_toArray, List.set_cons_zero, List.set_cons_succ]
          refine wpAnyH_take (i := 9) (oi := ⟨some 29, _, _, _, _, _⟩) (v := ?_) rfl (by kernel_rfl) (by kernel_rfl) (by kernel_rfl) (fun _ _ _ h => h) (Or.inl ⟨by kernel_rfl, ?_⟩) hHeld ?_
          rotate_left
          · intro w1 hSw; (try dsimp only at hSw); go_simp <;> with_reducible rfl
          try simp only [Act.put, List.setIfInBounds_toArray, List.set_cons_zero, List.set_cons_succ]
          refine wpAnyH_ready (rs := [10, 14]) (by kernel_rfl) (by simp) ?_
          refine AllReadyH.cons rfl (fun K hK => ?_) (AllReadyH.cons rfl (fun K hK => ?_) (AllReadyH.nil))
          ·
            go_simp
            go_at_call 42
            refine (HRS.out _).mono ?_
            rintro e v10 ⟨rfl, hb10⟩
            have hz10 := hb10.size
            try simp only [World.size_alloc, size_drewT] at hz10
            try go_simp
            refine hK.out _ _ ?_ (fun hHeld => ?_)
            · exact ⟨(hHeld.1).old hb10, (hHeld.2.1).old hb10, (hHeld.2.2.1).old hb10, (hHeld.2.2.2.1).old hb10, (hHeld.2.2.2.2).trans ((hb10).mono (hHeld.2.2.2.2).size)⟩
            clear hK K
            try simp only [Act.put, List.setIfInBounds_toArray, List.set_cons_zero, List.set_cons_succ]
            refine wpAnyH_take (i := 11) (oi := ⟨some 19, _, _, _, _, _⟩) (v := ?_) rfl (by kernel_rfl) (by kernel_rfl) (by kernel_rfl) (fun _ _ _ h => h) (Or.inl ⟨by kernel_rfl, ?_⟩) hHeld ?_
            rotate_left
            · intro w1 hSw; (try dsimp only at hSw); go_simp <;> with_reducible rfl
            try simp only [Act.put, List.setIfInBounds_toArray, List.set_cons_zero, List.set_cons_succ]
            refine wpAnyH_take (i := 12) (oi := ⟨some 31, _, _, _, _, _⟩) (v := ?_) rfl (by kernel_rfl) (by kernel_rfl) (by kernel_rfl) (fun _ _ _ h => h) (Or.inl ⟨by kernel_rfl, ?_⟩) hHeld ?_
            rotate_left
            · intro w1 hSw; (try dsimp only at hSw); go_simp <;> with_reducible rfl
            try simp only [Act.put, List.setIfInBounds_toArray, List.set_cons_zero, List.set_cons_succ]
            refine wpAnyH_take (i := 13) (oi := ⟨some 32, _, _, _, _, _⟩) (v := ?_) rfl (by kernel_rfl) (by kernel_rfl) (by kernel_rfl) (fun _ _ _ h => h) (Or.inl ⟨by kernel_rfl, ?_⟩) hHeld ?_
            rotate_left
            · intro w1 hSw; (try dsimp only at hSw); go_simp <;> with_reducible rfl
            try simp only [Act.put, List.setIfInBounds_toArray, List.set_cons_zero, List.set_cons_succ]
            refine wpAnyH_ready (rs := [14]) (by kernel_rfl) (by simp) ?_
            refine AllReadyH.cons rfl (fun K hK => ?_) (AllReadyH.nil)
            go_simp
            refine hK.out _ _ ?_ (fun hHeld => ?_)
            · exact ⟨(hHeld.1).old ((Below.refl _ _).alloc (Nat.le_refl _) _), (hHeld.2.1).old ((Below.refl _ _).alloc (Nat.le_refl _) _), (hHeld.2.2.1).old ((Below.refl _ _).alloc (Nat.le_refl _) _), (hHeld.2.2.2.1).old ((Below.refl _ _).alloc (Nat.le_refl _) _), (hHeld.2.2.2.2).trans ((((Below.refl _ _).alloc (Nat.le_refl _) _)).mono (hHeld.2.2.2.2).size)⟩
            clear hK K
            try simp only [Act.put, List.setIfInBounds_toArray, List.set_cons_zero, List.set_cons_succ]
            refine wpAnyH_ready (rs := [15]) (by kernel_rfl) (by simp) ?_
            refine AllReadyH.cons rfl (fun K hK => ?_) (AllReadyH.nil)
            refine step_store_row rfl 34 _ _ rfl _ [.int .i64 z0, .int .i64 z1, .int .i64 z2, .int .i64 z3, .int .i64 z4, .int .i64 z5] rfl rfl 34 [.int .i64 0, .int .i64 0, .int .i64 0, .int .i64 0, .int .i64 0, .int .i64 0] ?_ (by kernel_rfl) rfl (by simp [Value.oneCell']) ?_
            · (repeat (first | with_reducible exact Row.new _ _ _ | (refine rowAt _ _ ?_; first | rfl | (simp only [World.size_alloc, size_drewT]; done)) | with_reducible refine Row.setRow (vs := [.int .i64 0, .int .i64 0, .int .i64 0, .int .i64 0, .int .i64 0, .int .i64 0]) ?_ _ | with_reducible refine Row.old ?_ hb2 | with_reducible refine Row.old ?_ hb5 | with_reducible refine Row.old ?_ hb8 | with_reducible refine Row.old ?_ hb10 | with_reducible refine Row.alloc ?_ _ | with_reducible refine Row.drew ?_))
            refine hK.out _ _ ?_ (fun hHeld => ?_)
            · exact ⟨hHeld.1.farRow (by (try simp only [World.size_alloc, size_drewT]); omega) _, hHeld.2.1.farRow (by (try simp only [World.size_alloc, size_drewT]); omega) _, hHeld.2.2.1.farN (by (try simp only [World.size_alloc, size_drewT]); omega) _, hHeld.2.2.2.1.farN (by (try simp only [World.size_alloc, size_drewT]); omega) _, Below.setRow hHeld.2.2.2.2 (by (try simp only [World.size_alloc, size_drewT]); omega) _⟩
            clear hK K
            try simp only [Act.put, List.setIfInBounds_toArray, List.set_cons_zero, List.set_cons_succ]
            refine wpAnyH_take (i := 16) (oi := ⟨some 8, _, _, _, _, _⟩) (v := ?_) rfl (by kernel_rfl) (by kernel_rfl) (by kernel_rfl) (fun _ _ _ h => h) (Or.inl ⟨by kernel_rfl, ?_⟩) hHeld ?_
            rotate_left
            · intro w1 hSw; (try dsimp only at hSw); go_simp <;> with_reducible rfl
            try simp only [Act.put, List.setIfInBounds_toArray, List.set_cons_zero, List.set_cons_succ]
            refine wpAnyH_done (by kernel_rfl) ?_ _
            go_wp2_with fail
            go_meet
            exact ⟨_, rfl, rfl, (by (repeat (first | with_reducible exact Row.new _ _ _ | (refine rowAt _ _ ?_; first | rfl | (simp only [World.size_alloc, size_drewT]; done)) | with_reducible refine Row.setRow (vs := [.int .i64 0, .int .i64 0, .int .i64 0, .int .i64 0, .int .i64 0, .int .i64 0]) ?_ _ | with_reducible refine Row.old ?_ hb2 | with_reducible refine Row.old ?_ hb5 | with_reducible refine Row.old ?_ hb8 | with_reducible refine Row.old ?_ hb10 | with_reducible refine Row.alloc ?_ _ | with_reducible refine Row.drew ?_))), (by (try simp only [World.size_alloc, size_drewT]); omega), hHeld⟩
          ·
            go_simp
            refine hK.out _ _ ?_ (fun hHeld => ?_)
            · exact ⟨(hHeld.1).old ((Below.refl _ _).alloc (Nat.le_refl _) _), (hHeld.2.1).old ((Below.refl _ _).alloc (Nat.le_refl _) _), (hHeld.2.2.1).old ((Below.refl _ _).alloc (Nat.le_refl _) _), (hHeld.2.2.2.1).old ((Below.refl _ _).alloc (Nat.le_refl _) _), (hHeld.2.2.2.2).trans ((((Below.refl _ _).alloc (Nat.le_refl _) _)).mono (hHeld.2.2.2.2).size)⟩
            clear hK K
            try simp only [Act.put, List.setIfInBounds_toArray, List.set_cons_zero, List.set_cons_succ]
            refine wpAnyH_ready (rs := [10]) (by kernel_rfl) (by simp) ?_
            refine AllReadyH.cons rfl (fun K hK => ?_) (AllReadyH.nil)
            go_simp
            go_at_call 42
            refine (HRS.out _).mono ?_
            rintro e v10 ⟨rfl, hb10⟩
            have hz10 := hb10.size
            try simp only [World.size_alloc, size_drewT] at hz10
            try go_simp
            refine hK.out _ _ ?_ (fun hHeld => ?_)
            · exact ⟨(hHeld.1).old hb10, (hHeld.2.1).old hb10, (hHeld.2.2.1).old hb10, (hHeld.2.2.2.1).old hb10, (hHeld.2.2.2.2).trans ((hb10).mono (hHeld.2.2.2.2).size)⟩
            clear hK K
            try simp only [Act.put, List.setIfInBounds_toArray, List.set_cons_zero, List.set_cons_succ]
            refine wpAnyH_take (i := 11) (oi := ⟨some 19, _, _, _, _, _⟩) (v := ?_) rfl (by kernel_rfl) (by kernel_rfl) (by kernel_rfl) (fun _ _ _ h => h) (Or.inl ⟨by kernel_rfl, ?_⟩) hHeld ?_
            rotate_left
            · intro w1 hSw; (try dsimp only at hSw); go_simp <;> with_reducible rfl
            try simp only [Act.put, List.setIfInBounds_toArray, List.set_cons_zero, List.set_cons_succ]
            refine wpAnyH_take (i := 12) (oi := ⟨some 31, _, _, _, _, _⟩) (v := ?_) rfl (by kernel_rfl) (by kernel_rfl) (by kernel_rfl) (fun _ _ _ h => h) (Or.inl ⟨by kernel_rfl, ?_⟩) hHeld ?_
            rotate_left
            · intro w1 hSw; (try dsimp only at hSw); go_simp <;> with_reducible rfl
            try simp only [Act.put, List.setIfInBounds_toArray, List.set_cons_zero, List.set_cons_succ]
            refine wpAnyH_take (i := 13) (oi := ⟨some 32, _, _, _, _, _⟩) (v := ?_) rfl (by kernel_rfl) (by kernel_rfl) (by kernel_rfl) (fun _ _ _ h => h) (Or.inl ⟨by kernel_rfl, ?_⟩) hHeld ?_
            rotate_left
            · intro w1 hSw; (try dsimp only at hSw); go_simp <;> with_reducible rfl
            try simp only [Act.put, List.setIfInBounds_toArray, List.set_cons_zero, List.set_cons_succ]
            refine wpAnyH_ready (rs := [15]) (by kernel_rfl) (by simp) ?_
            refine AllReadyH.cons rfl (fun K hK => ?_) (AllReadyH.nil)
            refine step_store_row rfl 34 _ _ rfl _ [.int .i64 z0, .int .i64 z1, .int .i64 z2, .int .i64 z3, .int .i64 z4, .int .i64 z5] rfl rfl 34 [.int .i64 0, .int .i64 0, .int .i64 0, .int .i64 0, .int .i64 0, .int .i64 0] ?_ (by kernel_rfl) rfl (by simp [Value.oneCell']) ?_
            · (repeat (first | with_reducible exact Row.new _ _ _ | (refine rowAt _ _ ?_; first | rfl | (simp only [World.size_alloc, size_drewT]; done)) | with_reducible refine Row.setRow (vs := [.int .i64 0, .int .i64 0, .int .i64 0, .int .i64 0, .int .i64 0, .int .i64 0]) ?_ _ | with_reducible refine Row.old ?_ hb2 | with_reducible refine Row.old ?_ hb5 | with_reducible refine Row.old ?_ hb8 | with_reducible refine Row.old ?_ hb10 | with_reducible refine Row.alloc ?_ _ | with_reducible refine Row.drew ?_))
            refine hK.out _ _ ?_ (fun hHeld => ?_)
            · exact ⟨hHeld.1.farRow (by (try simp only [World.size_alloc, size_drewT]); omega) _, hHeld.2.1.farRow (by (try simp only [World.size_alloc, size_drewT]); omega) _, hHeld.2.2.1.farN (by (try simp only [World.size_alloc, size_drewT]); omega) _, hHeld.2.2.2.1.farN (by (try simp only [World.size_alloc, size_drewT]); omega) _, Below.setRow hHeld.2.2.2.2 (by (try simp only [World.size_alloc, size_drewT]); omega) _⟩
            clear hK K
            try simp only [Act.put, List.setIfInBounds_toArray, List.set_cons_zero, List.set_cons_succ]
            refine wpAnyH_take (i := 16) (oi := ⟨some 8, _, _, _, _, _⟩) (v := ?_) rfl (by kernel_rfl) (by kernel_rfl) (by kernel_rfl) (fun _ _ _ h => h) (Or.inl ⟨by kernel_rfl, ?_⟩) hHeld ?_
            rotate_left
            · intro w1 hSw; (try dsimp only at hSw); go_simp <;> with_reducible rfl
            try simp only [Act.put, List.setIfInBounds_toArray, List.set_cons_zero, List.set_cons_succ]
            refine wpAnyH_done (by kernel_rfl) ?_ _
            go_wp2_with fail
            go_meet
            exact ⟨_, rfl, rfl, (by (repeat (first | with_reducible exact Row.new _ _ _ | (refine rowAt _ _ ?_; first | rfl | (simp only [World.size_alloc, size_drewT]; done)) | with_reducible refine Row.setRow (vs := [.int .i64 0, .int .i64 0, .int .i64 0, .int .i64 0, .int .i64 0, .int .i64 0]) ?_ _ | with_reducible refine Row.old ?_ hb2 | with_reducible refine Row.old ?_ hb5 | with_reducible refine Row.old ?_ hb8 | with_reducible refine Row.old ?_ hb10 | with_reducible refine Row.alloc ?_ _ | with_reducible refine Row.drew ?_))), (by (try simp only [World.size_alloc, size_drewT]); omega), hHeld⟩
        ·
          go_simp
          refine hK.out _ _ ?_ (fun hHeld => ?_)
          · exact ⟨(hHeld.1).old ((Below.refl _ _).alloc (Nat.le_refl _) _), (hHeld.2.1).old ((Below.refl _ _).alloc (Nat.le_refl _) _), (hHeld.2.2.1).old ((Below.refl _ _).alloc (Nat.le_refl _) _), (hHeld.2.2.2.1).old ((Below.refl _ _).alloc (Nat.le_refl _) _), (hHeld.2.2.2.2).trans ((((Below.refl _ _).alloc (Nat.le_refl _) _)).mono (hHeld.2.2.2.2).size)⟩
          clear hK K
          try simp only [Act.put, List.setIfInBounds_toArray, List.set_cons_zero, List.set_cons_succ]
          refine wpAnyH_ready (rs := [8]) (by kernel_rfl) (by simp) ?_
          refine AllReadyH.cons rfl (fun K hK => ?_) (AllReadyH.nil)
          go_simp
          go_at_call 102
          refine (HG2.out _).mono ?_
          rintro e v8 ⟨rfl, hb8⟩
          have hz8 := hb8.size
          try simp only [World.size_alloc, size_drewT] at hz8
          try go_simp
          refine hK.out _ _ ?_ (fun hHeld => ?_)
          · exact ⟨(hHeld.1).old hb8, (hHeld.2.1).old hb8, (hHeld.2.2.1).old hb8, (hHeld.2.2.2.1).old hb8, (hHeld.2.2.2.2).trans ((hb8).mono (hHeld.2.2.2.2).size)⟩
          clear hK K
          try simp only [Act.put, List.setIfInBounds_toArray, List.set_cons_zero, List.set_cons_succ]
          refine wpAnyH_take (i := 9) (oi := ⟨some 29, _, _, _, _, _⟩) (v := ?_) rfl (by kernel_rfl) (by kernel_rfl) (by kernel_rfl) (fun _ _ _ h => h) (Or.inl ⟨by kernel_rfl, ?_⟩) hHeld ?_
          rotate_left
          · intro w1 hSw; (try dsimp only at hSw); go_simp <;> with_reducible rfl
          try simp only [Act.put, List.setIfInBounds_toArray, List.set_cons_zero, List.set_cons_succ]
          refine wpAnyH_ready (rs := [10]) (by kernel_rfl) (by simp) ?_
          refine AllReadyH.cons rfl (fun K hK => ?_) (AllReadyH.nil)
          go_simp
          go_at_call 42
          refine (HRS.out _).mono ?_
          rintro e v10 ⟨rfl, hb10⟩
          have hz10 := hb10.size
          try simp only [World.size_alloc, size_drewT] at hz10
          try go_simp
          refine hK.out _ _ ?_ (fun hHeld => ?_)
          · exact ⟨(hHeld.1).old hb10, (hHeld.2.1).old hb10, (hHeld.2.2.1).old hb10, (hHeld.2.2.2.1).old hb10, (hHeld.2.2.2.2).trans ((hb10).mono (hHeld.2.2.2.2).size)⟩
          clear hK K
          try simp only [Act.put, List.setIfInBounds_toArray, List.set_cons_zero, List.set_cons_succ]
          refine wpAnyH_take (i := 11) (oi := ⟨some 19, _, _, _, _, _⟩) (v := ?_) rfl (by kernel_rfl) (by kernel_rfl) (by kernel_rfl) (fun _ _ _ h => h) (Or.inl ⟨by kernel_rfl, ?_⟩) hHeld ?_
          rotate_left
          · intro w1 hSw; (try dsimp only at hSw); go_simp <;> with_reducible rfl
          try simp only [Act.put, List.setIfInBounds_toArray, List.set_cons_zero, List.set_cons_succ]
          refine wpAnyH_take (i := 12) (oi := ⟨some 31, _, _, _, _, _⟩) (v := ?_) rfl (by kernel_rfl) (by kernel_rfl) (by kernel_rfl) (fun _ _ _ h => h) (Or.inl ⟨by kernel_rfl, ?_⟩) hHeld ?_
          rotate_left
          · intro w1 hSw; (try dsimp only at hSw); go_simp <;> with_reducible rfl
          try simp only [Act.put, List.setIfInBounds_toArray, List.set_cons_zero, List.set_cons_succ]
          refine wpAnyH_take (i := 13) (oi := ⟨some 32, _, _, _, _, _⟩) (v := ?_) rfl (by kernel_rfl) (by kernel_rfl) (by kernel_rfl) (fun _ _ _ h => h) (Or.inl ⟨by kernel_rfl, ?_⟩) hHeld ?_
          rotate_left
          · intro w1 hSw; (try dsimp only at hSw); go_simp <;> with_reducible rfl
          try simp only [Act.put, List.setIfInBounds_toArray, List.set_cons_zero, List.set_cons_succ]
          refine wpAnyH_ready (rs := [15]) (by kernel_rfl) (by simp) ?_
          refine AllReadyH.cons rfl (fun K hK => ?_) (AllReadyH.nil)
          refine step_store_row rfl 34 _ _ rfl _ [.int .i64 z0, .int .i64 z1, .int .i64 z2, .int .i64 z3, .int .i64 z4, .int .i64 z5] rfl rfl 34 [.int .i64 0, .int .i64 0, .int .i64 0, .int .i64 0, .int .i64 0, .int .i64 0] ?_ (by kernel_rfl) rfl (by simp [Value.oneCell']) ?_
          · (repeat (first | with_reducible exact Row.new _ _ _ | (refine rowAt _ _ ?_; first | rfl | (simp only [World.size_alloc, size_drewT]; done)) | with_reducible refine Row.setRow (vs := [.int .i64 0, .int .i64 0, .int .i64 0, .int .i64 0, .int .i64 0, .int .i64 0]) ?_ _ | with_reducible refine Row.old ?_ hb2 | with_reducible refine Row.old ?_ hb5 | with_reducible refine Row.old ?_ hb8 | with_reducible refine Row.old ?_ hb10 | with_reducible refine Row.alloc ?_ _ | with_reducible refine Row.drew ?_))
          refine hK.out _ _ ?_ (fun hHeld => ?_)
          · exact ⟨hHeld.1.farRow (by (try simp only [World.size_alloc, size_drewT]); omega) _, hHeld.2.1.farRow (by (try simp only [World.size_alloc, size_drewT]); omega) _, hHeld.2.2.1.farN (by (try simp only [World.size_alloc, size_drewT]); omega) _, hHeld.2.2.2.1.farN (by (try simp only [World.size_alloc, size_drewT]); omega) _, Below.setRow hHeld.2.2.2.2 (by (try simp only [World.size_alloc, size_drewT]); omega) _⟩
          clear hK K
          try simp only [Act.put, List.setIfInBounds_toArray, List.set_cons_zero, List.set_cons_succ]
          refine wpAnyH_take (i := 16) (oi := ⟨some 8, _, _, _, _, _⟩) (v := ?_) rfl (by kernel_rfl) (by kernel_rfl) (by kernel_rfl) (fun _ _ _ h => h) (Or.inl ⟨by kernel_rfl, ?_⟩) hHeld ?_
          rotate_left
          · intro w1 hSw; (try dsimp only at hSw); go_simp <;> with_reducible rfl
          try simp only [Act.put, List.setIfInBounds_toArray, List.set_cons_zero, List.set_cons_succ]
          refine wpAnyH_done (by kernel_rfl) ?_ _
          go_wp2_with fail
          go_meet
          exact ⟨_, rfl, rfl, (by (repeat (first | with_reducible exact Row.new _ _ _ | (refine rowAt _ _ ?_; first | rfl | (simp only [World.size_alloc, size_drewT]; done)) | with_reducible refine Row.setRow (vs := [.int .i64 0, .int .i64 0, .int .i64 0, .int .i64 0, .int .i64 0, .int .i64 0]) ?_ _ | with_reducible refine Row.old ?_ hb2 | with_reducible refine Row.old ?_ hb5 | with_reducible refine Row.old ?_ hb8 | with_reducible refine Row.old ?_ hb10 | with_reducible refine Row.alloc ?_ _ | with_reducible refine Row.drew ?_))), (by (try simp only [World.size_alloc, size_drewT]); omega), hHeld⟩
      ·
        go_simp
        refine hK.out _ _ ?_ (fun hHeld => ?_)
        · exact ⟨(hHeld.1).old ((Below.refl _ _).alloc (Nat.le_refl _) _), (hHeld.2.1).old ((Below.refl _ _).alloc (Nat.le_refl _) _), (hHeld.2.2.1).old ((Below.refl _ _).alloc (Nat.le_refl _) _), (hHeld.2.2.2.1).old ((Below.refl _ _).alloc (Nat.le_refl _) _), (hHeld.2.2.2.2).trans ((((Below.refl _ _).alloc (Nat.le_refl _) _)).mono (hHeld.2.2.2.2).size)⟩
        clear hK K
        try simp only [Act.put, List.setIfInBounds_toArray, List.set_cons_zero, List.set_cons_succ]
        refine wpAnyH_ready (rs := [5]) (by kernel_rfl) (by simp) ?_
        refine AllReadyH.cons rfl (fun K hK => ?_) (AllReadyH.nil)
        go_simp
        go_at_call 102
        refine (HG1.out _).mono ?_
        rintro e v5 ⟨rfl, hb5⟩
        have hz5 := hb5.size
        try simp only [World.size_alloc, size_drewT] at hz5
        try go_simp
        refine hK.out _ _ ?_ (fun hHeld => ?_)
        · exact ⟨(hHeld.1).old hb5, (hHeld.2.1).old hb5, (hHeld.2.2.1).old hb5, (hHeld.2.2.2.1).old hb5, (hHeld.2.2.2.2).trans ((hb5).mono (hHeld.2.2.2.2).size)⟩
        clear hK K
        try simp only [Act.put, List.setIfInBounds_toArray, List.set_cons_zero, List.set_cons_succ]
        refine wpAnyH_ready (rs := [8]) (by kernel_rfl) (by simp) ?_
        refine AllReadyH.cons rfl (fun K hK => ?_) (AllReadyH.nil)
        go_simp
        go_at_call 102
        refine (HG2.out _).mono ?_
        rintro e v8 ⟨rfl, hb8⟩
        have hz8 := hb8.size
        try simp only [World.size_alloc, size_drewT] at hz8
        try go_simp
        refine hK.out _ _ ?_ (fun hHeld => ?_)
        · exact ⟨(hHeld.1).old hb8, (hHeld.2.1).old hb8, (hHeld.2.2.1).old hb8, (hHeld.2.2.2.1).old hb8, (hHeld.2.2.2.2).trans ((hb8).mono (hHeld.2.2.2.2).size)⟩
        clear hK K
        try simp only [Act.put, List.setIfInBounds_toArray, List.set_cons_zero, List.set_cons_succ]
        refine wpAnyH_take (i := 9) (oi := ⟨some 29, _, _, _, _, _⟩) (v := ?_) rfl (by kernel_rfl) (by kernel_rfl) (by kernel_rfl) (fun _ _ _ h => h) (Or.inl ⟨by kernel_rfl, ?_⟩) hHeld ?_
        rotate_left
        · intro w1 hSw; (try dsimp only at hSw); go_simp <;> with_reducible rfl
        try simp only [Act.put, List.setIfInBounds_toArray, List.set_cons_zero, List.set_cons_succ]
        refine wpAnyH_ready (rs := [10]) (by kernel_rfl) (by simp) ?_
        refine AllReadyH.cons rfl (fun K hK => ?_) (AllReadyH.nil)
        go_simp
        go_at_call 42
        refine (HRS.out _).mono ?_
        rintro e v10 ⟨rfl, hb10⟩
        have hz10 := hb10.size
        try simp only [World.size_alloc, size_drewT] at hz10
        try go_simp
        refine hK.out _ _ ?_ (fun hHeld => ?_)
        · exact ⟨(hHeld.1).old hb10, (hHeld.2.1).old hb10, (hHeld.2.2.1).old hb10, (hHeld.2.2.2.1).old hb10, (hHeld.2.2.2.2).trans ((hb10).mono (hHeld.2.2.2.2).size)⟩
        clear hK K
        try simp only [Act.put, List.setIfInBounds_toArray, List.set_cons_zero, List.set_cons_succ]
        refine wpAnyH_take (i := 11) (oi := ⟨some 19, _, _, _, _, _⟩) (v := ?_) rfl (by kernel_rfl) (by kernel_rfl) (by kernel_rfl) (fun _ _ _ h => h) (Or.inl ⟨by kernel_rfl, ?_⟩) hHeld ?_
        rotate_left
        · intro w1 hSw; (try dsimp only at hSw); go_simp <;> with_reducible rfl
        try simp only [Act.put, List.setIfInBounds_toArray, List.set_cons_zero, List.set_cons_succ]
        refine wpAnyH_take (i := 12) (oi := ⟨some 31, _, _, _, _, _⟩) (v := ?_) rfl (by kernel_rfl) (by kernel_rfl) (by kernel_rfl) (fun _ _ _ h => h) (Or.inl ⟨by kernel_rfl, ?_⟩) hHeld ?_
        rotate_left
        · intro w1 hSw; (try dsimp only at hSw); go_simp <;> with_reducible rfl
        try simp only [Act.put, List.setIfInBounds_toArray, List.set_cons_zero, List.set_cons_succ]
        refine wpAnyH_take (i := 13) (oi := ⟨some 32, _, _, _, _, _⟩) (v := ?_) rfl (by kernel_rfl) (by kernel_rfl) (by kernel_rfl) (fun _ _ _ h => h) (Or.inl ⟨by kernel_rfl, ?_⟩) hHeld ?_
        rotate_left
        · intro w1 hSw; (try dsimp only at hSw); go_simp <;> with_reducible rfl
        try simp only [Act.put, List.setIfInBounds_toArray, List.set_cons_zero, List.set_cons_succ]
        refine wpAnyH_ready (rs := [15]) (by kernel_rfl) (by simp) ?_
        refine AllReadyH.cons rfl (fun K hK => ?_) (AllReadyH.nil)
        refine step_store_row rfl 34 _ _ rfl _ [.int .i64 z0, .int .i64 z1, .int .i64 z2, .int .i64 z3, .int .i64 z4, .int .i64 z5] rfl rfl 34 [.int .i64 0, .int .i64 0, .int .i64 0, .int .i64 0, .int .i64 0, .int .i64 0] ?_ (by kernel_rfl) rfl (by simp [Value.oneCell']) ?_
        · (repeat (first | with_reducible exact Row.new _ _ _ | (refine rowAt _ _ ?_; first | rfl | (simp only [World.size_alloc, size_drewT]; done)) | with_reducible refine Row.setRow (vs := [.int .i64 0, .int .i64 0, .int .i64 0, .int .i64 0, .int .i64 0, .int .i64 0]) ?_ _ | with_reducible refine Row.old ?_ hb2 | with_reducible refine Row.old ?_ hb5 | with_reducible refine Row.old ?_ hb8 | with_reducible refine Row.old ?_ hb10 | with_reducible refine Row.alloc ?_ _ | with_reducible refine Row.drew ?_))
        refine hK.out _ _ ?_ (fun hHeld => ?_)
        · exact ⟨hHeld.1.farRow (by (try simp only [World.size_alloc, size_drewT]); omega) _, hHeld.2.1.farRow (by (try simp only [World.size_alloc, size_drewT]); omega) _, hHeld.2.2.1.farN (by (try simp only [World.size_alloc, size_drewT]); omega) _, hHeld.2.2.2.1.farN (by (try simp only [World.size_alloc, size_drewT]); omega) _, Below.setRow hHeld.2.2.2.2 (by (try simp only [World.size_alloc, size_drewT]); omega) _⟩
        clear hK K
        try simp only [Act.put, List.setIfInBounds_toArray, List.set_cons_zero, List.set_cons_succ]
        refine wpAnyH_take (i := 16) (oi := ⟨some 8, _, _, _, _, _⟩) (v := ?_) rfl (by kernel_rfl) (by kernel_rfl) (by kernel_rfl) (fun _ _ _ h => h) (Or.inl ⟨by kernel_rfl, ?_⟩) hHeld ?_
        rotate_left
        · intro w1 hSw; (try dsimp only at hSw); go_simp <;> with_reducible rfl
        try simp only [Act.put, List.setIfInBounds_toArray, List.set_cons_zero, List.set_cons_succ]
        refine wpAnyH_done (by kernel_rfl) ?_ _
        go_wp2_with fail
        go_meet
        exact ⟨_, rfl, rfl, (by (repeat (first | with_reducible exact Row.new _ _ _ | (refine rowAt _ _ ?_; first | rfl | (simp only [World.size_alloc, size_drewT]; done)) | with_reducible refine Row.setRow (vs := [.int .i64 0, .int .i64 0, .int .i64 0, .int .i64 0, .int .i64 0, .int .i64 0]) ?_ _ | with_reducible refine Row.old ?_ hb2 | with_reducible refine Row.old ?_ hb5 | with_reducible refine Row.old ?_ hb8 | with_reducible refine Row.old ?_ hb10 | with_reducible refine Row.alloc ?_ _ | with_reducible refine Row.drew ?_))), (by (try simp only [World.size_alloc, size_drewT]); omega), hHeld⟩
    ·
      go_simp
      refine hK.out _ _ ?_ (fun hHeld => ?_)
      · exact ⟨(hHeld.1).old ((Below.refl _ _).alloc (Nat.le_refl _) _), (hHeld.2.1).old ((Below.refl _ _).alloc (Nat.le_refl _) _), (hHeld.2.2.1).old ((Below.refl _ _).alloc (Nat.le_refl _) _), (hHeld.2.2.2.1).old ((Below.refl _ _).alloc (Nat.le_refl _) _), (hHeld.2.2.2.2).trans ((((Below.refl _ _).alloc (Nat.le_refl _) _)).mono (hHeld.2.2.2.2).size)⟩
      clear hK K
      try simp only [Act.put, List.setIfInBounds_toArray, List.set_cons_zero, List.set_cons_succ]
      refine wpAnyH_ready (rs := [2]) (by kernel_rfl) (by simp) ?_
      refine AllReadyH.cons rfl (fun K hK => ?_) (AllReadyH.nil)
      go_simp
      go_at_call 102
      refine (HG0.out _).mono ?_
      rintro e v2 ⟨rfl, hb2⟩
      have hz2 := hb2.size
      try simp only [World.size_alloc, size_drewT] at hz2
      try go_simp
      refine hK.out _ _ ?_ (fun hHeld => ?_)
      · exact ⟨(hHeld.1).old hb2, (hHeld.2.1).old hb2, (hHeld.2.2.1).old hb2, (hHeld.2.2.2.1).old hb2, (hHeld.2.2.2.2).trans ((hb2).mono (hHeld.2.2.2.2).size)⟩
      clear hK K
      try simp only [Act.put, List.setIfInBounds_toArray, List.set_cons_zero, List.set_cons_succ]
      refine wpAnyH_ready (rs := [5]) (by kernel_rfl) (by simp) ?_
      refine AllReadyH.cons rfl (fun K hK => ?_) (AllReadyH.nil)
      go_simp
      go_at_call 102
      refine (HG1.out _).mono ?_
      rintro e v5 ⟨rfl, hb5⟩
      have hz5 := hb5.size
      try simp only [World.size_alloc, size_drewT] at hz5
      try go_simp
      refine hK.out _ _ ?_ (fun hHeld => ?_)
      · exact ⟨(hHeld.1).old hb5, (hHeld.2.1).old hb5, (hHeld.2.2.1).old hb5, (hHeld.2.2.2.1).old hb5, (hHeld.2.2.2.2).trans ((hb5).mono (hHeld.2.2.2.2).size)⟩
      clear hK K
      try simp only [Act.put, List.setIfInBounds_toArray, List.set_cons_zero, List.set_cons_succ]
      refine wpAnyH_ready (rs := [8]) (by kernel_rfl) (by simp) ?_
      refine AllReadyH.cons rfl (fun K hK => ?_) (AllReadyH.nil)
      go_simp
      go_at_call 102
      refine (HG2.out _).mono ?_
      rintro e v8 ⟨rfl, hb8⟩
      have hz8 := hb8.size
      try simp only [World.size_alloc, size_drewT] at hz8
      try go_simp
      refine hK.out _ _ ?_ (fun hHeld => ?_)
      · exact ⟨(hHeld.1).old hb8, (hHeld.2.1).old hb8, (hHeld.2.2.1).old hb8, (hHeld.2.2.2.1).old hb8, (hHeld.2.2.2.2).trans ((hb8).mono (hHeld.2.2.2.2).size)⟩
      clear hK K
      try simp only [Act.put, List.setIfInBounds_toArray, List.set_cons_zero, List.set_cons_succ]
      refine wpAnyH_take (i := 9) (oi := ⟨some 29, _, _, _, _, _⟩) (v := ?_) rfl (by kernel_rfl) (by kernel_rfl) (by kernel_rfl) (fun _ _ _ h => h) (Or.inl ⟨by kernel_rfl, ?_⟩) hHeld ?_
      rotate_left
      · intro w1 hSw; (try dsimp only at hSw); go_simp <;> with_reducible rfl
      try simp only [Act.put, List.setIfInBounds_toArray, List.set_cons_zero, List.set_cons_succ]
      refine wpAnyH_ready (rs := [10]) (by kernel_rfl) (by simp) ?_
      refine AllReadyH.cons rfl (fun K hK => ?_) (AllReadyH.nil)
      go_simp
      go_at_call 42
      refine (HRS.out _).mono ?_
      rintro e v10 ⟨rfl, hb10⟩
      have hz10 := hb10.size
      try simp only [World.size_alloc, size_drewT] at hz10
      try go_simp
      refine hK.out _ _ ?_ (fun hHeld => ?_)
      · exact ⟨(hHeld.1).old hb10, (hHeld.2.1).old hb10, (hHeld.2.2.1).old hb10, (hHeld.2.2.2.1).old hb10, (hHeld.2.2.2.2).trans ((hb10).mono (hHeld.2.2.2.2).size)⟩
      clear hK K
      try simp only [Act.put, List.setIfInBounds_toArray, List.set_cons_zero, List.set_cons_succ]
      refine wpAnyH_take (i := 11) (oi := ⟨some 19, _, _, _, _, _⟩) (v := ?_) rfl (by kernel_rfl) (by kernel_rfl) (by kernel_rfl) (fun _ _ _ h => h) (Or.inl ⟨by kernel_rfl, ?_⟩) hHeld ?_
      rotate_left
      · intro w1 hSw; (try dsimp only at hSw); go_simp <;> with_reducible rfl
      try simp only [Act.put, List.setIfInBounds_toArray, List.set_cons_zero, List.set_cons_succ]
      refine wpAnyH_take (i := 12) (oi := ⟨some 31, _, _, _, _, _⟩) (v := ?_) rfl (by kernel_rfl) (by kernel_rfl) (by kernel_rfl) (fun _ _ _ h => h) (Or.inl ⟨by kernel_rfl, ?_⟩) hHeld ?_
      rotate_left
      · intro w1 hSw; (try dsimp only at hSw); go_simp <;> with_reducible rfl
      try simp only [Act.put, List.setIfInBounds_toArray, List.set_cons_zero, List.set_cons_succ]
      refine wpAnyH_take (i := 13) (oi := ⟨some 32, _, _, _, _, _⟩) (v := ?_) rfl (by kernel_rfl) (by kernel_rfl) (by kernel_rfl) (fun _ _ _ h => h) (Or.inl ⟨by kernel_rfl, ?_⟩) hHeld ?_
      rotate_left
      · intro w1 hSw; (try dsimp only at hSw); go_simp <;> with_reducible rfl
      try simp only [Act.put, List.setIfInBounds_toArray, List.set_cons_zero, List.set_cons_succ]
      refine wpAnyH_ready (rs := [15]) (by kernel_rfl) (by simp) ?_
      refine AllReadyH.cons rfl (fun K hK => ?_) (AllReadyH.nil)
      refine step_store_row rfl 34 _ _ rfl _ [.int .i64 z0, .int .i64 z1, .int .i64 z2, .int .i64 z3, .int .i64 z4, .int .i64 z5] rfl rfl 34 [.int .i64 0, .int .i64 0, .int .i64 0, .int .i64 0, .int .i64 0, .int .i64 0] ?_ (by kernel_rfl) rfl (by simp [Value.oneCell']) ?_
      · (repeat (first | with_reducible exact Row.new _ _ _ | (refine rowAt _ _ ?_; first | rfl | (simp only [World.size_alloc, size_drewT]; done)) | with_reducible refine Row.setRow (vs := [.int .i64 0, .int .i64 0, .int .i64 0, .int .i64 0, .int .i64 0, .int .i64 0]) ?_ _ | with_reducible refine Row.old ?_ hb2 | with_reducible refine Row.old ?_ hb5 | with_reducible refine Row.old ?_ hb8 | with_reducible refine Row.old ?_ hb10 | with_reducible refine Row.alloc ?_ _ | with_reducible refine Row.drew ?_))
      refine hK.out _ _ ?_ (fun hHeld => ?_)
      · exact ⟨hHeld.1.farRow (by (try simp only [World.size_alloc, size_drewT]); omega) _, hHeld.2.1.farRow (by (try simp only [World.size_alloc, size_drewT]); omega) _, hHeld.2.2.1.farN (by (try simp only [World.size_alloc, size_drewT]); omega) _, hHeld.2.2.2.1.farN (by (try simp only [World.size_alloc, size_drewT]); omega) _, Below.setRow hHeld.2.2.2.2 (by (try simp only [World.size_alloc, size_drewT]); omega) _⟩
      clear hK K
      try simp only [Act.put, List.setIfInBounds_toArray, List.set_cons_zero, List.set_cons_succ]
      refine wpAnyH_take (i := 16) (oi := ⟨some 8, _, _, _, _, _⟩) (v := ?_) rfl (by kernel_rfl) (by kernel_rfl) (by kernel_rfl) (fun _ _ _ h => h) (Or.inl ⟨by kernel_rfl, ?_⟩) hHeld ?_
      rotate_left
      · intro w1 hSw; (try dsimp only at hSw); go_simp <;> with_reducible rfl
      try simp only [Act.put, List.setIfInBounds_toArray, List.set_cons_zero, List.set_cons_succ]
      refine wpAnyH_done (by kernel_rfl) ?_ _
      go_wp2_with fail
      go_meet
      exact ⟨_, rfl, rfl, (by (repeat (first | with_reducible exact Row.new _ _ _ | (refine rowAt _ _ ?_; first | rfl | (simp only [World.size_alloc, size_drewT]; done)) | with_reducible refine Row.setRow (vs := [.int .i64 0, .int .i64 0, .int .i64 0, .int .i64 0, .int .i64 0, .int .i64 0]) ?_ _ | with_reducible refine Row.old ?_ hb2 | with_reducible refine Row.old ?_ hb5 | with_reducible refine Row.old ?_ hb8 | with_reducible refine Row.old ?_ hb10 | with_reducible refine Row.alloc ?_ _ | with_reducible refine Row.drew ?_))), (by (try simp only [World.size_alloc, size_drewT]); omega), hHeld⟩
  case rest =>
  obtain ⟨g7, rfl, rfl, k7, h57, k5, k1, k2, k3, kb⟩ := hcut
  have HS7 : Hid (Row wc (g7) 34 [.int .i64 z0, .int .i64 z1, .int .i64 z2, .int .i64 z3, .int .i64 z4, .int .i64 z5] ∧ Row wc (g5) 129 [.complex .f64 e1 e2, .complex .f64 f1 f2, .complex .f64 g1 g2, .complex .f64 h1 h2] ∧ RowN wc (w.heap.size + 1) 34 6 ∧ RowN wc (w.heap.size + 1 + 1) 25 2 ∧ Below w.heap.size w wc) := ⟨k7, k5, k2, k3, kb⟩
  clear k7 k5 k1 k2 k3 kb HS1 HG0 HG1 HG2 HRS
  go_upto_region 7 with fail
  refine genT (fun V => Row V (g7) 34 [.int .i64 z0, .int .i64 z1, .int .i64 z2, .int .i64 z3, .int .i64 z4, .int .i64 z5] ∧ Row V (g5) 129 [.complex .f64 e1 e2, .complex .f64 f1 f2, .complex .f64 g1 g2, .complex .f64 h1 h2] ∧ RowN V (w.heap.size + 1) 34 6 ∧ RowN V (w.heap.size + 1 + 1) 25 2 ∧ Below w.heap.size w V) HS7.out ?_
  intro W2 s2
  have HS8 := Lib.hid s2
  clear s2 HS7
  refine wp_region_held_drew (S := fun V => Row V (g7) 34 [.int .i64 z0, .int .i64 z1, .int .i64 z2, .int .i64 z3, .int .i64 z4, .int .i64 z5] ∧ Row V (g5) 129 [.complex .f64 e1 e2, .complex .f64 f1 f2, .complex .f64 g1 g2, .complex .f64 h1 h2] ∧ RowN V (w.heap.size + 1) 34 6 ∧ RowN V (w.heap.size + 1 + 1) 25 2 ∧ Below w.heap.size w V) (by kernel_rfl) ?_ (fun hHeld => ?_)
  · exact ⟨(HS8.out.1).drew, (HS8.out.2.1).drew, (HS8.out.2.2.1).drew, (HS8.out.2.2.2.1).drew, (HS8.out.2.2.2.2).drew⟩
  refine wpAnyH_take (i := 0) (oi := ⟨some 38, _, _, _, _, _⟩) (v := .agg #[.int .i64 z0, .int .i64 z1, .int .i64 z2, .int .i64 z3, .int .i64 z4, .int .i64 z5]) rfl (by kernel_rfl) (by kernel_rfl) (by kernel_rfl) (fun _ _ _ h => h) (Or.inl ⟨by kernel_rfl, fun V hV => ex_rowT 34 _ rfl (g7) rfl 34 [.int .i64 z0, .int .i64 z1, .int .i64 z2, .int .i64 z3, .int .i64 z4, .int .i64 z5] _ Tryz.underlying34 rfl (by kernel_rfl) (hV.1)⟩) hHeld ?_
  try simp only [Act.put, List.setIfInBounds_toArray, List.set_cons_zero, List.set_cons_succ]
  refine wpAnyH_take (i := 1) (oi := ⟨some 39, _, _, _, _, _⟩) (v := ?_) rfl (by kernel_rfl) (by kernel_rfl) (by kernel_rfl) (fun _ _ _ h => h) (Or.inl ⟨by kernel_rfl, ?_⟩) hHeld ?_
  rotate_left
  · intro w1 hSw; (try dsimp only at hSw); go_simp <;> with_reducible rfl
  try simp only [Act.put, List.setIfInBounds_toArray, List.set_cons_zero, List.set_cons_succ]
  refine wpAnyH_take (i := 2) (oi := ⟨some 40, _, _, _, _, _⟩) (v := ?_) rfl (by kernel_rfl) (by kernel_rfl) (by kernel_rfl) (fun _ _ _ h => h) (Or.inl ⟨by kernel_rfl, ?_⟩) hHeld ?_
  rotate_left
  · intro w1 hSw; (try dsimp only at hSw); have cc := (hSw.2.1).cell 3; simp only [List.getElem?_cons_succ, List.getElem?_cons_zero] at cc; go_simp <;> with_reducible rfl
  try simp only [Act.put, List.setIfInBounds_toArray, List.set_cons_zero, List.set_cons_succ]
  refine wpAnyH_ready (rs := [3]) (by kernel_rfl) (by simp) ?_
  refine AllReadyH.cons rfl (fun K hK => ?_) AllReadyH.nil
  go_simp
  go_at_call 102
  refine (HG3.out _).mono ?_
  rintro e v3 ⟨rfl, hb3⟩
  try go_simp
  refine hK.out _ _ ?_ (fun hHeld => ?_)
  · exact ⟨(hHeld.1).old hb3, (hHeld.2.1).old hb3, (hHeld.2.2.1).old hb3, (hHeld.2.2.2.1).old hb3, (hHeld.2.2.2.2).trans ((hb3).mono (hHeld.2.2.2.2).size)⟩
  clear hK K
  try simp only [Act.put, List.setIfInBounds_toArray, List.set_cons_zero, List.set_cons_succ]
  refine wpAnyH_ready (rs := [4]) (by kernel_rfl) (by simp) ?_
  refine AllReadyH.cons rfl (fun K hK => ?_) AllReadyH.nil
  obtain ⟨vs0, hvl0, hvr0⟩ := (hHeld.2.2.1)
  have hLast0 := hHeld
  refine step_store_row rfl 34 _ _ rfl (w.heap.size + 1) [.int .i64 z0, .int .i64 z1, .int .i64 z2, .int .i64 z3, .int .i64 z4, .int .i64 z5] rfl rfl 34 vs0 hvr0 (by kernel_rfl) hvl0 (by simp [Value.oneCell']) ?_
  refine hK.out _ _ ?_ (fun hHeld => ?_)
  · exact ⟨(hHeld.1).farRow (by omega) _, (hHeld.2.1).farRow (by omega) _, ⟨_, rfl, hvr0.setRow _⟩, (hHeld.2.2.2.1).farN (by omega) _, Below.setRow (hHeld.2.2.2.2) (by omega) _⟩
  clear hK K
  try simp only [Act.put, List.setIfInBounds_toArray, List.set_cons_zero, List.set_cons_succ]
  refine wpAnyH_ready (rs := [5]) (by kernel_rfl) (by simp) ?_
  refine AllReadyH.cons rfl (fun K hK => ?_) AllReadyH.nil
  obtain ⟨vs1, hvl1, hvr1⟩ := (hHeld.2.2.2.1)
  have hLast1 := hHeld
  refine step_store_row rfl 25 _ _ rfl (w.heap.size + 1 + 1) [.int .i64 z6, .int .i64 z7] rfl rfl 25 vs1 hvr1 (by kernel_rfl) hvl1 (by simp [Value.oneCell']) ?_
  refine hK.out _ _ ?_ (fun hHeld => ?_)
  · exact ⟨(hHeld.1).farRow (by omega) _, (hHeld.2.1).farRow (by omega) _, (hHeld.2.2.1).farN (by omega) _, ⟨_, rfl, hvr1.setRow _⟩, Below.setRow (hHeld.2.2.2.2) (by omega) _⟩
  clear hK K
  try simp only [Act.put, List.setIfInBounds_toArray, List.set_cons_zero, List.set_cons_succ]
  refine wpAnyH_take (i := 6) (oi := ⟨some 4, _, _, _, _, _⟩) (v := ?_) rfl (by kernel_rfl) (by kernel_rfl) (by kernel_rfl) (fun _ _ _ h => h) (Or.inl ⟨by kernel_rfl, ?_⟩) hHeld ?_
  rotate_left
  · intro w1 hSw; (try dsimp only at hSw); go_simp <;> with_reducible rfl
  try simp only [Act.put, List.setIfInBounds_toArray, List.set_cons_zero, List.set_cons_succ]
  refine wpAnyH_done (by kernel_rfl) ?_ _
  go_wp2_with fail
  refine bodyPost_ret (results_rrt rfl _ _ (w.heap.size + 1) (w.heap.size + 1 + 1) 34 25 #[.int .i64 z0, .int .i64 z1, .int .i64 z2, .int .i64 z3, .int .i64 z4, .int .i64 z5] #[.int .i64 z6, .int .i64 z7] (0, 0) (0, 0) _ _ rfl ((hvr0.setRow [.int .i64 z0, .int .i64 z1, .int .i64 z2, .int .i64 z3, .int .i64 z4, .int .i64 z5]).farRow (by omega) _) rfl (hvr1.setRow [.int .i64 z6, .int .i64 z7]) Tryz.underlying34 rfl (by kernel_rfl) Tryz.underlying25 rfl (by kernel_rfl)) rfl ⟨rfl, Below.setRow hLast1.2.2.2.2 (by omega) _⟩


end Go.Proofs.YtlflfieknibgmaaGreatDoor
