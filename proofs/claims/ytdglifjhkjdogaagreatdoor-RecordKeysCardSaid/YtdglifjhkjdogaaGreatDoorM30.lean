import Derived.Test.YtdglifjhkjdogaaGreatDoorM28
import Derived.Test.YtdglifjhkjdogaaGreatDoorM25
import Derived.Test.YtdglifjhkjdogaaGreatDoorM32
import Derived.Test.YtdglifjhkjdogaaGreatDoorM29
import Derived.Test.YtdglifjhkjdogaaGreatDoorM20
/- The law of aligned samples, walked whole. -/
namespace Go.Proofs.YtdglifjhkjdogaaGreatDoor
set_option linter.all false
open Go.RowKit Go.Fl
set_option linter.unusedVariables false
set_option linter.unusedSimpArgs false

set_option maxRecDepth 100000 in
set_option maxHeartbeats 2000000 in
theorem aligns_walk (haw : AwakeOk) (A C : Option Addr) (c e1 : Nat) (xs ys : List Nat) (n0 n1 : Int) (w : World) (haW : Aw w) (hA : Rd w A (flts xs)) (hC : Rd w C (flts ys)) (hx : xs.length ≤ 9223372036854775807) (hy : ys.length ≤ 9223372036854775807) (hs : shortB xs.length = true) (hs2 : shortB ys.length = true) (hn0 : ¬ (40 < n0 ∧ n0 ≤ 256)) (sh bn bd CE E1 E2 E3 E4 ONE : Int)
    (hF1 : ∀ W, Rd W A (flts xs) → Calls Tryz.prog 11 #[.slice A xs.length c] W fun e w' => ∃ GA gc, e = .returned (.slice GA xs.length gc) ∧ Rd w' GA (flts xs) ∧ Below W.heap.size W w')
    (hF2 : ∀ W, Rd W C (flts ys) → Calls Tryz.prog 11 #[.slice C ys.length e1] W fun e w' => ∃ GA gc, e = .returned (.slice GA ys.length gc) ∧ Rd w' GA (flts ys) ∧ Below W.heap.size W w')
    (hAl : ∀ W GA gc HA hc, Rd W GA (flts xs) → Rd W HA (flts ys) → Calls Tryz.prog 10 #[.slice GA xs.length gc, .slice HA ys.length hc, .int .i64 n0, .int .i64 n1] W fun e w' => e = .returned (.tuple #[.int .i64 sh, .agg #[.int .i64 bn, .int .i64 bd], .int .i64 CE]) ∧ Below W.heap.size W w')
    (hC1 : ∀ W, Rd W A (flts xs) → Calls Tryz.prog 13 #[.slice A xs.length c] W fun e w' => e = .returned (.int .i64 E1) ∧ Below W.heap.size W w')
    (hC2 : ∀ W, Rd W C (flts ys) → Calls Tryz.prog 13 #[.slice C ys.length e1] W fun e w' => e = .returned (.int .i64 E2) ∧ Below W.heap.size W w')
    (hC3 : ∀ W, Calls Tryz.prog 14 #[.int .i64 n0] W fun e w' => e = .returned (.int .i64 E3) ∧ Below W.heap.size W w')
    (hC4 : ∀ W, Calls Tryz.prog 15 #[.int .i64 n1] W fun e w' => e = .returned (.int .i64 E4) ∧ Below W.heap.size W w')
    (hOne : firstI [E1, E2, E3, E4] = ONE)
    (hRef : ONE = 0 → ∀ W, Rd W A (flts xs) → Rd W C (flts ys) → Calls Tryz.prog 16 #[.slice A xs.length c, .slice C ys.length e1, .int .i64 n0, .int .i64 n1] W fun e w' => e = .returned (.tuple #[.int .i64 sh, .agg #[.int .i64 bn, .int .i64 bd], .int .i64 CE]) ∧ Below W.heap.size W w')
    (hNo : ONE ≠ 0 → sh = 0 ∧ bn = 0 ∧ bd = 0 ∧ CE = ONE) :
    Calls Tryz.prog 3 #[.slice A xs.length c, .slice C ys.length e1, .agg #[.int .i64 n0, .int .i64 n1]] w fun e w' => e = .returned (.bool true) ∧ Below w.heap.size w w' := by
  have HS0 := Lib.hid (LaS.new (n0 := n0) (n1 := n1) hA hC haW)
  have Hxs : Hid (∀ (A : Option Addr) (c : Nat) W, Calls Tryz.prog 8 #[.slice A xs.length c] W fun e w' => e = .returned (.bool true) ∧ Below W.heap.size W w') := fun A c W => by have k := shortList_any A xs.length c W (by omega); rw [hs] at k; exact k
  have Hys : Hid (∀ (A : Option Addr) (c : Nat) W, Calls Tryz.prog 8 #[.slice A ys.length c] W fun e w' => e = .returned (.bool true) ∧ Below W.heap.size W w') := fun A c W => by have k := shortList_any A ys.length c W (by omega); rw [hs2] at k; exact k
  have HF1 := Lib.hid hF1; have HF2 := Lib.hid hF2; have HAL := Lib.hid hAl; have HC1 := Lib.hid hC1; have HC2 := Lib.hid hC2; have HC3 := Lib.hid hC3; have HC4 := Lib.hid hC4; have HON := Lib.hid hOne; have HRF := Lib.hid hRef; have HNO := Lib.hid hNo; have HN0 := Lib.hid hn0
  clear haW hA hC hs hs2 hF1 hF2 hAl hC1 hC2 hC3 hC4 hOne hRef hNo hn0
  go_enter Tryz.func3, Tryz.ntmps3
  go_upto_region 1 with fail
  refine genR (LaS w A C xs ys n0 n1) HS0.out ?_
  clear HS0
  intro W1 s1
  have HS1 := Lib.hid s1
  clear s1
  go_cut [30] from 13 to 30 (fun s30 wx => s30 = .bool false ∧ LaS w A C xs ys n0 n1 wx)
  case first =>
    clear HF1 HF2 HAL HC1 HC2 HC3 HC4 HON HRF HNO
    by_cases h40 : 40 < n0
    · have d1 : decide (40 < n0) = true := decide_eq_true h40
      have d2 : decide (n0 ≤ 256) = false := decide_eq_false (fun h => HN0.out ⟨h40, h⟩)
      clear h40
      go_wp2_with (first | (have hz9 := HS2.out; clear hz9; go_at_call 8; refine (Hys.out _ _ _).mono ?_; rintro e w1 ⟨rfl, hb1⟩; have HS3 := Lib.hid (HS2.out.keep hb1); clear hb1; have c0 := HS3.out.1.cell 0; simp only [List.getElem?_cons_zero] at c0) | (go_at_call 8; refine (Hxs.out _ _ _).mono ?_; rintro e w1 ⟨rfl, hb1⟩; have HS2 := Lib.hid (HS1.out.keep hb1); clear hb1))
      go_meet
      exact ⟨rfl, HS3.out⟩
    · have d1 : decide (40 < n0) = false := decide_eq_false h40
      clear h40
      go_wp2_with (first | (have hz9 := HS2.out; clear hz9; go_at_call 8; refine (Hys.out _ _ _).mono ?_; rintro e w1 ⟨rfl, hb1⟩; have HS3 := Lib.hid (HS2.out.keep hb1); clear hb1; have c0 := HS3.out.1.cell 0; simp only [List.getElem?_cons_zero] at c0) | (go_at_call 8; refine (Hxs.out _ _ _).mono ?_; rintro e w1 ⟨rfl, hb1⟩; have HS2 := Lib.hid (HS1.out.keep hb1); clear hb1))
      go_meet
      exact ⟨rfl, HS3.out⟩
  case rest =>
  obtain ⟨rfl, s3⟩ := hcut
  have HS3 := Lib.hid s3
  clear s3 HS1 Hxs Hys HN0
  obtain ⟨W3, hW3⟩ : ∃ W3 : World, W3 = wc := ⟨_, rfl⟩
  subst hW3
  go_upto_region 3 with fail
  go_cut [7, 8, 9] from 32 to 44 (fun s7 s8 s9 wx => ∃ g : Nat, s7 = .int .i64 sh ∧ s8 = .pointer (some ⟨g, 0, none⟩) ∧ s9 = .int .i64 CE ∧ Row wx g 27 [.int .i64 bn, .int .i64 bd] ∧ W3.heap.size ≤ g ∧ Below W3.heap.size W3 wx)
  case first =>
    clear HC1 HC2 HC3 HC4 HON HRF HNO
    refine wp_region_held_drew (S := fun V => Below W3.heap.size W3 V) (by kernel_rfl) ?_ (fun hHeld => ?_)
    · exact (Below.refl _ _).drew
    refine wpAnyH_take (i := 0) (oi := ⟨some 33, _, _, _, _, _⟩) (v := ?_) rfl (by kernel_rfl) (by kernel_rfl) (by kernel_rfl) (fun _ _ _ h => h) (Or.inl ⟨by kernel_rfl, ?_⟩) hHeld ?_
    rotate_left
    · intro w1 hSw; (try dsimp only at hSw); go_simp <;> with_reducible rfl
    try simp only [Act.put, List.setIfInBounds_toArray, List.set_cons_zero, List.set_cons_succ]
    refine wpAnyH_take (i := 2) (oi := ⟨some 35, _, _, _, _, _⟩) (v := ?_) rfl (by kernel_rfl) (by kernel_rfl) (by kernel_rfl) (fun _ _ _ h => h) (Or.inl ⟨by kernel_rfl, ?_⟩) hHeld ?_
    rotate_left
    · intro w1 hSw; (try dsimp only at hSw); go_simp <;> with_reducible rfl
    try simp only [Act.put, List.setIfInBounds_toArray, List.set_cons_zero, List.set_cons_succ]
    refine wpAnyH_take (i := 4) (oi := ⟨some 37, _, _, _, _, _⟩) (v := ?_) rfl (by kernel_rfl) (by kernel_rfl) (by kernel_rfl) (fun _ _ _ h => h) (Or.inl ⟨by kernel_rfl, ?_⟩) hHeld ?_
    rotate_left
    · intro w1 hSw; (try dsimp only at hSw); go_simp <;> with_reducible rfl
    try simp only [Act.put, List.setIfInBounds_toArray, List.set_cons_zero, List.set_cons_succ]
    refine wpAnyH_take (i := 5) (oi := ⟨some 38, _, _, _, _, _⟩) (v := ?_) rfl (by kernel_rfl) (by kernel_rfl) (by kernel_rfl) (fun _ _ _ h => h) (Or.inl ⟨by kernel_rfl, ?_⟩) hHeld ?_
    rotate_left
    · intro w1 hSw; (try dsimp only at hSw); have c0 := (HS3.out.keep hSw).1.cell 0; simp only [List.getElem?_cons_succ, List.getElem?_cons_zero] at c0; go_simp <;> with_reducible rfl
    try simp only [Act.put, List.setIfInBounds_toArray, List.set_cons_zero, List.set_cons_succ]
    refine wpAnyH_take (i := 6) (oi := ⟨some 39, _, _, _, _, _⟩) (v := ?_) rfl (by kernel_rfl) (by kernel_rfl) (by kernel_rfl) (fun _ _ _ h => h) (Or.inl ⟨by kernel_rfl, ?_⟩) hHeld ?_
    rotate_left
    · intro w1 hSw; (try dsimp only at hSw); go_simp <;> with_reducible rfl
    try simp only [Act.put, List.setIfInBounds_toArray, List.set_cons_zero, List.set_cons_succ]
    refine wpAnyH_take (i := 7) (oi := ⟨some 40, _, _, _, _, _⟩) (v := ?_) rfl (by kernel_rfl) (by kernel_rfl) (by kernel_rfl) (fun _ _ _ h => h) (Or.inl ⟨by kernel_rfl, ?_⟩) hHeld ?_
    rotate_left
    · intro w1 hSw; (try dsimp only at hSw); have c1 := (HS3.out.keep hSw).1.cell 1; simp only [List.getElem?_cons_succ, List.getElem?_cons_zero] at c1; go_simp <;> with_reducible rfl
    try simp only [Act.put, List.setIfInBounds_toArray, List.set_cons_zero, List.set_cons_succ]
    refine wpAnyH_ready (rs := [1, 13]) (by kernel_rfl) (by simp) ?_
    refine AllReadyH.cons rfl (fun K hK => ?_) (AllReadyH.cons rfl (fun K hK => ?_) (AllReadyH.nil))
    ·
      go_simp
      go_at_call 11
      refine (HF1.out _ (HS3.out.keep hHeld).2.1).mono ?_
      rintro e w4 ⟨GA, gc, rfl, hga, hb4⟩
      have z4 := (hHeld.trans (hb4.mono hHeld.size)).size
      try go_simp
      refine hK.out _ _ ?_ (fun hHeld => ?_)
      · exact hHeld.trans (hb4.mono hHeld.size)
      clear hK K
      try simp only [Act.put, List.setIfInBounds_toArray, List.set_cons_zero, List.set_cons_succ]
      refine wpAnyH_ready (rs := [3, 13]) (by kernel_rfl) (by simp) ?_
      refine AllReadyH.cons rfl (fun K hK => ?_) (AllReadyH.cons rfl (fun K hK => ?_) (AllReadyH.nil))
      ·
        go_simp
        go_at_call 11
        refine (HF2.out _ (HS3.out.keep hHeld).2.2.1).mono ?_
        rintro e w4b ⟨HA, hc, rfl, hha, hb4b⟩
        have z4b := (hHeld.trans (hb4b.mono hHeld.size)).size
        try go_simp
        refine hK.out _ _ ?_ (fun hHeld => ?_)
        · exact hHeld.trans (hb4b.mono hHeld.size)
        clear hK K
        try simp only [Act.put, List.setIfInBounds_toArray, List.set_cons_zero, List.set_cons_succ]
        refine wpAnyH_ready (rs := [8, 13]) (by kernel_rfl) (by simp) ?_
        refine AllReadyH.cons rfl (fun K hK => ?_) (AllReadyH.cons rfl (fun K hK => ?_) (AllReadyH.nil))
        ·
          go_simp
          go_at_call 10
          refine (HAL.out _ _ _ _ _ ((hga).below hb4b) (hha)).mono ?_
          rintro e w5 ⟨rfl, hb5⟩
          have z5 := (hHeld.trans (hb5.mono hHeld.size)).size
          try go_simp
          refine hK.out _ _ ?_ (fun hHeld => ?_)
          · exact hHeld.trans (hb5.mono hHeld.size)
          clear hK K
          try simp only [Act.put, List.setIfInBounds_toArray, List.set_cons_zero, List.set_cons_succ]
          refine wpAnyH_take (i := 9) (oi := ⟨some 32, _, _, _, _, _⟩) (v := ?_) rfl (by kernel_rfl) (by kernel_rfl) (by kernel_rfl) (fun _ _ _ h => h) (Or.inl ⟨by kernel_rfl, ?_⟩) hHeld ?_
          rotate_left
          · intro w1 hSw; (try dsimp only at hSw); go_simp <;> with_reducible rfl
          try simp only [Act.put, List.setIfInBounds_toArray, List.set_cons_zero, List.set_cons_succ]
          refine wpAnyH_take (i := 10) (oi := ⟨some 42, _, _, _, _, _⟩) (v := ?_) rfl (by kernel_rfl) (by kernel_rfl) (by kernel_rfl) (fun _ _ _ h => h) (Or.inl ⟨by kernel_rfl, ?_⟩) hHeld ?_
          rotate_left
          · intro w1 hSw; (try dsimp only at hSw); go_simp <;> with_reducible rfl
          try simp only [Act.put, List.setIfInBounds_toArray, List.set_cons_zero, List.set_cons_succ]
          refine wpAnyH_take (i := 11) (oi := ⟨some 43, _, _, _, _, _⟩) (v := ?_) rfl (by kernel_rfl) (by kernel_rfl) (by kernel_rfl) (fun _ _ _ h => h) (Or.inl ⟨by kernel_rfl, ?_⟩) hHeld ?_
          rotate_left
          · intro w1 hSw; (try dsimp only at hSw); go_simp <;> with_reducible rfl
          try simp only [Act.put, List.setIfInBounds_toArray, List.set_cons_zero, List.set_cons_succ]
          refine wpAnyH_take (i := 12) (oi := ⟨some 44, _, _, _, _, _⟩) (v := ?_) rfl (by kernel_rfl) (by kernel_rfl) (by kernel_rfl) (fun _ _ _ h => h) (Or.inl ⟨by kernel_rfl, ?_⟩) hHeld ?_
          rotate_left
          · intro w1 hSw; (try dsimp only at hSw); go_simp <;> with_reducible rfl
          try simp only [Act.put, List.setIfInBounds_toArray, List.set_cons_zero, List.set_cons_succ]
          refine wpAnyH_ready (rs := [13]) (by kernel_rfl) (by simp) ?_
          refine AllReadyH.cons rfl (fun K hK => ?_) (AllReadyH.nil)
          go_simp
          refine hK.out _ _ ?_ (fun hHeld => ?_)
          · exact hHeld.alloc hHeld.size _
          clear hK K
          try simp only [Act.put, List.setIfInBounds_toArray, List.set_cons_zero, List.set_cons_succ]
          refine wpAnyH_take (i := 14) (oi := ⟨some 7, _, _, _, _, _⟩) (v := ?_) rfl (by kernel_rfl) (by kernel_rfl) (by kernel_rfl) (fun _ _ _ h => h) (Or.inl ⟨by kernel_rfl, ?_⟩) hHeld ?_
          rotate_left
          · intro w1 hSw; (try dsimp only at hSw); go_simp <;> with_reducible rfl
          try simp only [Act.put, List.setIfInBounds_toArray, List.set_cons_zero, List.set_cons_succ]
          refine wpAnyH_ready (rs := [15]) (by kernel_rfl) (by simp) ?_
          refine AllReadyH.cons rfl (fun K hK => ?_) (AllReadyH.nil)
          have hz := Row.new w5 27 [.int .i64 0, .int .i64 0]
          have hg : W3.heap.size ≤ w5.heap.size := z5
          refine step_store_row rfl 27 _ _ rfl w5.heap.size [.int .i64 bn, .int .i64 bd] rfl rfl 27 [.int .i64 0, .int .i64 0] hz (by kernel_rfl) rfl (by simp [Value.oneCell']) ?_
          refine hK.out _ _ ?_ (fun hHeld => ?_)
          · exact Below.setRow hHeld hg _
          clear hK K
          try simp only [Act.put, List.setIfInBounds_toArray, List.set_cons_zero, List.set_cons_succ]
          refine wpAnyH_take (i := 16) (oi := ⟨some 9, _, _, _, _, _⟩) (v := ?_) rfl (by kernel_rfl) (by kernel_rfl) (by kernel_rfl) (fun _ _ _ h => h) (Or.inl ⟨by kernel_rfl, ?_⟩) hHeld ?_
          rotate_left
          · intro w1 hSw; (try dsimp only at hSw); go_simp <;> with_reducible rfl
          try simp only [Act.put, List.setIfInBounds_toArray, List.set_cons_zero, List.set_cons_succ]
          refine wpAnyH_done (by kernel_rfl) ?_ _
          go_wp2_with fail
          go_meet
          exact ⟨_, rfl, rfl, rfl, hz.setRow _, hg, hHeld⟩
        ·
          go_simp
          refine hK.out _ _ ?_ (fun hHeld => ?_)
          · exact hHeld.alloc hHeld.size _
          clear hK K
          try simp only [Act.put, List.setIfInBounds_toArray, List.set_cons_zero, List.set_cons_succ]
          refine wpAnyH_ready (rs := [8]) (by kernel_rfl) (by simp) ?_
          refine AllReadyH.cons rfl (fun K hK => ?_) (AllReadyH.nil)
          go_simp
          go_at_call 10
          refine (HAL.out _ _ _ _ _ (((hga).below hb4b).below ((Below.refl _ _).alloc (Nat.le_refl _) _)) ((hha).below ((Below.refl _ _).alloc (Nat.le_refl _) _))).mono ?_
          rintro e w5 ⟨rfl, hb5⟩
          have z5 := (hHeld.trans (hb5.mono hHeld.size)).size
          try go_simp
          refine hK.out _ _ ?_ (fun hHeld => ?_)
          · exact hHeld.trans (hb5.mono hHeld.size)
          clear hK K
          try simp only [Act.put, List.setIfInBounds_toArray, List.set_cons_zero, List.set_cons_succ]
          refine wpAnyH_take (i := 9) (oi := ⟨some 32, _, _, _, _, _⟩) (v := ?_) rfl (by kernel_rfl) (by kernel_rfl) (by kernel_rfl) (fun _ _ _ h => h) (Or.inl ⟨by kernel_rfl, ?_⟩) hHeld ?_
          rotate_left
          · intro w1 hSw; (try dsimp only at hSw); go_simp <;> with_reducible rfl
          try simp only [Act.put, List.setIfInBounds_toArray, List.set_cons_zero, List.set_cons_succ]
          refine wpAnyH_take (i := 10) (oi := ⟨some 42, _, _, _, _, _⟩) (v := ?_) rfl (by kernel_rfl) (by kernel_rfl) (by kernel_rfl) (fun _ _ _ h => h) (Or.inl ⟨by kernel_rfl, ?_⟩) hHeld ?_
          rotate_left
          · intro w1 hSw; (try dsimp only at hSw); go_simp <;> with_reducible rfl
          try simp only [Act.put, List.setIfInBounds_toArray, List.set_cons_zero, List.set_cons_succ]
          refine wpAnyH_take (i := 11) (oi := ⟨some 43, _, _, _, _, _⟩) (v := ?_) rfl (by kernel_rfl) (by kernel_rfl) (by kernel_rfl) (fun _ _ _ h => h) (Or.inl ⟨by kernel_rfl, ?_⟩) hHeld ?_
          rotate_left
          · intro w1 hSw; (try dsimp only at hSw); go_simp <;> with_reducible rfl
          try simp only [Act.put, List.setIfInBounds_toArray, List.set_cons_zero, List.set_cons_succ]
          refine wpAnyH_take (i := 12) (oi := ⟨some 44, _, _, _, _, _⟩) (v := ?_) rfl (by kernel_rfl) (by kernel_rfl) (by kernel_rfl) (fun _ _ _ h => h) (Or.inl ⟨by kernel_rfl, ?_⟩) hHeld ?_
          rotate_left
          · intro w1 hSw; (try dsimp only at hSw); go_simp <;> with_reducible rfl
          try simp only [Act.put, List.setIfInBounds_toArray, List.set_cons_zero, List.set_cons_succ]
          refine wpAnyH_take (i := 14) (oi := ⟨some 7, _, _, _, _, _⟩) (v := ?_) rfl (by kernel_rfl) (by kernel_rfl) (by kernel_rfl) (fun _ _ _ h => h) (Or.inl ⟨by kernel_rfl, ?_⟩) hHeld ?_
          rotate_left
          · intro w1 hSw; (try dsimp only at hSw); go_simp <;> with_reducible rfl
          try simp only [Act.put, List.setIfInBounds_toArray, List.set_cons_zero, List.set_cons_succ]
          refine wpAnyH_ready (rs := [15]) (by kernel_rfl) (by simp) ?_
          refine AllReadyH.cons rfl (fun K hK => ?_) (AllReadyH.nil)
          have hz := (Row.new w4b 27 [.int .i64 0, .int .i64 0]).old hb5
          have hg : W3.heap.size ≤ w4b.heap.size := z4b
          refine step_store_row rfl 27 _ _ rfl w4b.heap.size [.int .i64 bn, .int .i64 bd] rfl rfl 27 [.int .i64 0, .int .i64 0] hz (by kernel_rfl) rfl (by simp [Value.oneCell']) ?_
          refine hK.out _ _ ?_ (fun hHeld => ?_)
          · exact Below.setRow hHeld hg _
          clear hK K
          try simp only [Act.put, List.setIfInBounds_toArray, List.set_cons_zero, List.set_cons_succ]
          refine wpAnyH_take (i := 16) (oi := ⟨some 9, _, _, _, _, _⟩) (v := ?_) rfl (by kernel_rfl) (by kernel_rfl) (by kernel_rfl) (fun _ _ _ h => h) (Or.inl ⟨by kernel_rfl, ?_⟩) hHeld ?_
          rotate_left
          · intro w1 hSw; (try dsimp only at hSw); go_simp <;> with_reducible rfl
          try simp only [Act.put, List.setIfInBounds_toArray, List.set_cons_zero, List.set_cons_succ]
          refine wpAnyH_done (by kernel_rfl) ?_ _
          go_wp2_with fail
          go_meet
          exact ⟨_, rfl, rfl, rfl, hz.setRow _, hg, hHeld⟩
      ·
        go_simp
        refine hK.out _ _ ?_ (fun hHeld => ?_)
        · exact hHeld.alloc hHeld.size _
        clear hK K
        try simp only [Act.put, List.setIfInBounds_toArray, List.set_cons_zero, List.set_cons_succ]
        refine wpAnyH_ready (rs := [3]) (by kernel_rfl) (by simp) ?_
        refine AllReadyH.cons rfl (fun K hK => ?_) (AllReadyH.nil)
        go_simp
        go_at_call 11
        refine (HF2.out _ (HS3.out.keep hHeld).2.2.1).mono ?_
        rintro e w4b ⟨HA, hc, rfl, hha, hb4b⟩
        have z4b := (hHeld.trans (hb4b.mono hHeld.size)).size
        try go_simp
        refine hK.out _ _ ?_ (fun hHeld => ?_)
        · exact hHeld.trans (hb4b.mono hHeld.size)
        clear hK K
        try simp only [Act.put, List.setIfInBounds_toArray, List.set_cons_zero, List.set_cons_succ]
        refine wpAnyH_ready (rs := [8]) (by kernel_rfl) (by simp) ?_
        refine AllReadyH.cons rfl (fun K hK => ?_) (AllReadyH.nil)
        go_simp
        go_at_call 10
        refine (HAL.out _ _ _ _ _ (((hga).below ((Below.refl _ _).alloc (Nat.le_refl _) _)).below hb4b) (hha)).mono ?_
        rintro e w5 ⟨rfl, hb5⟩
        have z5 := (hHeld.trans (hb5.mono hHeld.size)).size
        try go_simp
        refine hK.out _ _ ?_ (fun hHeld => ?_)
        · exact hHeld.trans (hb5.mono hHeld.size)
        clear hK K
        try simp only [Act.put, List.setIfInBounds_toArray, List.set_cons_zero, List.set_cons_succ]
        refine wpAnyH_take (i := 9) (oi := ⟨some 32, _, _, _, _, _⟩) (v := ?_) rfl (by kernel_rfl) (by kernel_rfl) (by kernel_rfl) (fun _ _ _ h => h) (Or.inl ⟨by kernel_rfl, ?_⟩) hHeld ?_
        rotate_left
        · intro w1 hSw; (try dsimp only at hSw); go_simp <;> with_reducible rfl
        try simp only [Act.put, List.setIfInBounds_toArray, List.set_cons_zero, List.set_cons_succ]
        refine wpAnyH_take (i := 10) (oi := ⟨some 42, _, _, _, _, _⟩) (v := ?_) rfl (by kernel_rfl) (by kernel_rfl) (by kernel_rfl) (fun _ _ _ h => h) (Or.inl ⟨by kernel_rfl, ?_⟩) hHeld ?_
        rotate_left
        · intro w1 hSw; (try dsimp only at hSw); go_simp <;> with_reducible rfl
        try simp only [Act.put, List.setIfInBounds_toArray, List.set_cons_zero, List.set_cons_succ]
        refine wpAnyH_take (i := 11) (oi := ⟨some 43, _, _, _, _, _⟩) (v := ?_) rfl (by kernel_rfl) (by kernel_rfl) (by kernel_rfl) (fun _ _ _ h => h) (Or.inl ⟨by kernel_rfl, ?_⟩) hHeld ?_
        rotate_left
        · intro w1 hSw; (try dsimp only at hSw); go_simp <;> with_reducible rfl
        try simp only [Act.put, List.setIfInBounds_toArray, List.set_cons_zero, List.set_cons_succ]
        refine wpAnyH_take (i := 12) (oi := ⟨some 44, _, _, _, _, _⟩) (v := ?_) rfl (by kernel_rfl) (by kernel_rfl) (by kernel_rfl) (fun _ _ _ h => h) (Or.inl ⟨by kernel_rfl, ?_⟩) hHeld ?_
        rotate_left
        · intro w1 hSw; (try dsimp only at hSw); go_simp <;> with_reducible rfl
        try simp only [Act.put, List.setIfInBounds_toArray, List.set_cons_zero, List.set_cons_succ]
        refine wpAnyH_take (i := 14) (oi := ⟨some 7, _, _, _, _, _⟩) (v := ?_) rfl (by kernel_rfl) (by kernel_rfl) (by kernel_rfl) (fun _ _ _ h => h) (Or.inl ⟨by kernel_rfl, ?_⟩) hHeld ?_
        rotate_left
        · intro w1 hSw; (try dsimp only at hSw); go_simp <;> with_reducible rfl
        try simp only [Act.put, List.setIfInBounds_toArray, List.set_cons_zero, List.set_cons_succ]
        refine wpAnyH_ready (rs := [15]) (by kernel_rfl) (by simp) ?_
        refine AllReadyH.cons rfl (fun K hK => ?_) (AllReadyH.nil)
        have hz := ((Row.new w4 27 [.int .i64 0, .int .i64 0]).old hb4b).old hb5
        have hg : W3.heap.size ≤ w4.heap.size := z4
        refine step_store_row rfl 27 _ _ rfl w4.heap.size [.int .i64 bn, .int .i64 bd] rfl rfl 27 [.int .i64 0, .int .i64 0] hz (by kernel_rfl) rfl (by simp [Value.oneCell']) ?_
        refine hK.out _ _ ?_ (fun hHeld => ?_)
        · exact Below.setRow hHeld hg _
        clear hK K
        try simp only [Act.put, List.setIfInBounds_toArray, List.set_cons_zero, List.set_cons_succ]
        refine wpAnyH_take (i := 16) (oi := ⟨some 9, _, _, _, _, _⟩) (v := ?_) rfl (by kernel_rfl) (by kernel_rfl) (by kernel_rfl) (fun _ _ _ h => h) (Or.inl ⟨by kernel_rfl, ?_⟩) hHeld ?_
        rotate_left
        · intro w1 hSw; (try dsimp only at hSw); go_simp <;> with_reducible rfl
        try simp only [Act.put, List.setIfInBounds_toArray, List.set_cons_zero, List.set_cons_succ]
        refine wpAnyH_done (by kernel_rfl) ?_ _
        go_wp2_with fail
        go_meet
        exact ⟨_, rfl, rfl, rfl, hz.setRow _, hg, hHeld⟩
    ·
      go_simp
      refine hK.out _ _ ?_ (fun hHeld => ?_)
      · exact hHeld.alloc hHeld.size _
      clear hK K
      try simp only [Act.put, List.setIfInBounds_toArray, List.set_cons_zero, List.set_cons_succ]
      refine wpAnyH_ready (rs := [1]) (by kernel_rfl) (by simp) ?_
      refine AllReadyH.cons rfl (fun K hK => ?_) (AllReadyH.nil)
      go_simp
      go_at_call 11
      refine (HF1.out _ (HS3.out.keep hHeld).2.1).mono ?_
      rintro e w4 ⟨GA, gc, rfl, hga, hb4⟩
      have z4 := (hHeld.trans (hb4.mono hHeld.size)).size
      try go_simp
      refine hK.out _ _ ?_ (fun hHeld => ?_)
      · exact hHeld.trans (hb4.mono hHeld.size)
      clear hK K
      try simp only [Act.put, List.setIfInBounds_toArray, List.set_cons_zero, List.set_cons_succ]
      refine wpAnyH_ready (rs := [3]) (by kernel_rfl) (by simp) ?_
      refine AllReadyH.cons rfl (fun K hK => ?_) (AllReadyH.nil)
      go_simp
      go_at_call 11
      refine (HF2.out _ (HS3.out.keep hHeld).2.2.1).mono ?_
      rintro e w4b ⟨HA, hc, rfl, hha, hb4b⟩
      have z4b := (hHeld.trans (hb4b.mono hHeld.size)).size
      try go_simp
      refine hK.out _ _ ?_ (fun hHeld => ?_)
      · exact hHeld.trans (hb4b.mono hHeld.size)
      clear hK K
      try simp only [Act.put, List.setIfInBounds_toArray, List.set_cons_zero, List.set_cons_succ]
      refine wpAnyH_ready (rs := [8]) (by kernel_rfl) (by simp) ?_
      refine AllReadyH.cons rfl (fun K hK => ?_) (AllReadyH.nil)
      go_simp
      go_at_call 10
      refine (HAL.out _ _ _ _ _ ((hga).below hb4b) (hha)).mono ?_
      rintro e w5 ⟨rfl, hb5⟩
      have z5 := (hHeld.trans (hb5.mono hHeld.size)).size
      try go_simp
      refine hK.out _ _ ?_ (fun hHeld => ?_)
      · exact hHeld.trans (hb5.mono hHeld.size)
      clear hK K
      try simp only [Act.put, List.setIfInBounds_toArray, List.set_cons_zero, List.set_cons_succ]
      refine wpAnyH_take (i := 9) (oi := ⟨some 32, _, _, _, _, _⟩) (v := ?_) rfl (by kernel_rfl) (by kernel_rfl) (by kernel_rfl) (fun _ _ _ h => h) (Or.inl ⟨by kernel_rfl, ?_⟩) hHeld ?_
      rotate_left
      · intro w1 hSw; (try dsimp only at hSw); go_simp <;> with_reducible rfl
      try simp only [Act.put, List.setIfInBounds_toArray, List.set_cons_zero, List.set_cons_succ]
      refine wpAnyH_take (i := 10) (oi := ⟨some 42, _, _, _, _, _⟩) (v := ?_) rfl (by kernel_rfl) (by kernel_rfl) (by kernel_rfl) (fun _ _ _ h => h) (Or.inl ⟨by kernel_rfl, ?_⟩) hHeld ?_
      rotate_left
      · intro w1 hSw; (try dsimp only at hSw); go_simp <;> with_reducible rfl
      try simp only [Act.put, List.setIfInBounds_toArray, List.set_cons_zero, List.set_cons_succ]
      refine wpAnyH_take (i := 11) (oi := ⟨some 43, _, _, _, _, _⟩) (v := ?_) rfl (by kernel_rfl) (by kernel_rfl) (by kernel_rfl) (fun _ _ _ h => h) (Or.inl ⟨by kernel_rfl, ?_⟩) hHeld ?_
      rotate_left
      · intro w1 hSw; (try dsimp only at hSw); go_simp <;> with_reducible rfl
      try simp only [Act.put, List.setIfInBounds_toArray, List.set_cons_zero, List.set_cons_succ]
      refine wpAnyH_take (i := 12) (oi := ⟨some 44, _, _, _, _, _⟩) (v := ?_) rfl (by kernel_rfl) (by kernel_rfl) (by kernel_rfl) (fun _ _ _ h => h) (Or.inl ⟨by kernel_rfl, ?_⟩) hHeld ?_
      rotate_left
      · intro w1 hSw; (try dsimp only at hSw); go_simp <;> with_reducible rfl
      try simp only [Act.put, List.setIfInBounds_toArray, List.set_cons_zero, List.set_cons_succ]
      refine wpAnyH_take (i := 14) (oi := ⟨some 7, _, _, _, _, _⟩) (v := ?_) rfl (by kernel_rfl) (by kernel_rfl) (by kernel_rfl) (fun _ _ _ h => h) (Or.inl ⟨by kernel_rfl, ?_⟩) hHeld ?_
      rotate_left
      · intro w1 hSw; (try dsimp only at hSw); go_simp <;> with_reducible rfl
      try simp only [Act.put, List.setIfInBounds_toArray, List.set_cons_zero, List.set_cons_succ]
      refine wpAnyH_ready (rs := [15]) (by kernel_rfl) (by simp) ?_
      refine AllReadyH.cons rfl (fun K hK => ?_) (AllReadyH.nil)
      have hz := (((Row.new W3.drew 27 [.int .i64 0, .int .i64 0]).old hb4).old hb4b).old hb5
      have hg : W3.heap.size ≤ W3.heap.size := Nat.le_refl _
      refine step_store_row rfl 27 _ _ rfl W3.heap.size [.int .i64 bn, .int .i64 bd] rfl rfl 27 [.int .i64 0, .int .i64 0] hz (by kernel_rfl) rfl (by simp [Value.oneCell']) ?_
      refine hK.out _ _ ?_ (fun hHeld => ?_)
      · exact Below.setRow hHeld hg _
      clear hK K
      try simp only [Act.put, List.setIfInBounds_toArray, List.set_cons_zero, List.set_cons_succ]
      refine wpAnyH_take (i := 16) (oi := ⟨some 9, _, _, _, _, _⟩) (v := ?_) rfl (by kernel_rfl) (by kernel_rfl) (by kernel_rfl) (fun _ _ _ h => h) (Or.inl ⟨by kernel_rfl, ?_⟩) hHeld ?_
      rotate_left
      · intro w1 hSw; (try dsimp only at hSw); go_simp <;> with_reducible rfl
      try simp only [Act.put, List.setIfInBounds_toArray, List.set_cons_zero, List.set_cons_succ]
      refine wpAnyH_done (by kernel_rfl) ?_ _
      go_wp2_with fail
      go_meet
      exact ⟨_, rfl, rfl, rfl, hz.setRow _, hg, hHeld⟩
  case rest =>
    obtain ⟨g5, rfl, rfl, rfl, r5, hg5, hb3⟩ := hcut
    have HS4 := Lib.hid (HS3.out.keep hb3); have H5 := Lib.hid r5
    clear r5 hg5 hb3 HS3 HAL HF1 HF2
    obtain ⟨W4, hW4⟩ : ∃ W4 : World, W4 = wc := ⟨_, rfl⟩
    subst hW4
    go_upto_region 4 with fail
    refine wp_region_held_drew (S := fun V => Below W4.heap.size W4 V) (by kernel_rfl) ?_ (fun hHeld => ?_)
    · exact (Below.refl _ _).drew
    refine wpAnyH_take (i := 0) (oi := ⟨some 45, _, _, _, _, _⟩) (v := ?_) rfl (by kernel_rfl) (by kernel_rfl) (by kernel_rfl) (fun _ _ _ h => h) (Or.inl ⟨by kernel_rfl, ?_⟩) hHeld ?_
    rotate_left
    · intro w1 hSw; (try dsimp only at hSw); go_simp <;> with_reducible rfl
    try simp only [Act.put, List.setIfInBounds_toArray, List.set_cons_zero, List.set_cons_succ]
    refine wpAnyH_take (i := 2) (oi := ⟨some 47, _, _, _, _, _⟩) (v := ?_) rfl (by kernel_rfl) (by kernel_rfl) (by kernel_rfl) (fun _ _ _ h => h) (Or.inl ⟨by kernel_rfl, ?_⟩) hHeld ?_
    rotate_left
    · intro w1 hSw; (try dsimp only at hSw); go_simp <;> with_reducible rfl
    try simp only [Act.put, List.setIfInBounds_toArray, List.set_cons_zero, List.set_cons_succ]
    refine wpAnyH_take (i := 4) (oi := ⟨some 49, _, _, _, _, _⟩) (v := ?_) rfl (by kernel_rfl) (by kernel_rfl) (by kernel_rfl) (fun _ _ _ h => h) (Or.inl ⟨by kernel_rfl, ?_⟩) hHeld ?_
    rotate_left
    · intro w1 hSw; (try dsimp only at hSw); go_simp <;> with_reducible rfl
    try simp only [Act.put, List.setIfInBounds_toArray, List.set_cons_zero, List.set_cons_succ]
    refine wpAnyH_take (i := 5) (oi := ⟨some 50, _, _, _, _, _⟩) (v := ?_) rfl (by kernel_rfl) (by kernel_rfl) (by kernel_rfl) (fun _ _ _ h => h) (Or.inl ⟨by kernel_rfl, ?_⟩) hHeld ?_
    rotate_left
    · intro w1 hSw; (try dsimp only at hSw); have c0 := (HS4.out.keep hSw).1.cell 0; simp only [List.getElem?_cons_succ, List.getElem?_cons_zero] at c0; go_simp <;> with_reducible rfl
    try simp only [Act.put, List.setIfInBounds_toArray, List.set_cons_zero, List.set_cons_succ]
    refine wpAnyH_take (i := 7) (oi := ⟨some 52, _, _, _, _, _⟩) (v := ?_) rfl (by kernel_rfl) (by kernel_rfl) (by kernel_rfl) (fun _ _ _ h => h) (Or.inl ⟨by kernel_rfl, ?_⟩) hHeld ?_
    rotate_left
    · intro w1 hSw; (try dsimp only at hSw); go_simp <;> with_reducible rfl
    try simp only [Act.put, List.setIfInBounds_toArray, List.set_cons_zero, List.set_cons_succ]
    refine wpAnyH_take (i := 8) (oi := ⟨some 53, _, _, _, _, _⟩) (v := ?_) rfl (by kernel_rfl) (by kernel_rfl) (by kernel_rfl) (fun _ _ _ h => h) (Or.inl ⟨by kernel_rfl, ?_⟩) hHeld ?_
    rotate_left
    · intro w1 hSw; (try dsimp only at hSw); have c1 := (HS4.out.keep hSw).1.cell 1; simp only [List.getElem?_cons_succ, List.getElem?_cons_zero] at c1; go_simp <;> with_reducible rfl
    try simp only [Act.put, List.setIfInBounds_toArray, List.set_cons_zero, List.set_cons_succ]
    refine wpAnyH_ready (rs := [1]) (by kernel_rfl) (by simp) ?_
    refine AllReadyH.cons rfl (fun K hK => ?_) AllReadyH.nil
    go_simp
    go_at_call 13
    refine (HC1.out _ (HS4.out.keep hHeld).2.1).mono ?_
    rintro e w6 ⟨rfl, hb6⟩
    try go_simp
    refine hK.out _ _ ?_ (fun hHeld => ?_)
    · exact hHeld.trans (hb6.mono hHeld.size)
    clear hK K
    try simp only [Act.put, List.setIfInBounds_toArray, List.set_cons_zero, List.set_cons_succ]
    refine wpAnyH_ready (rs := [3]) (by kernel_rfl) (by simp) ?_
    refine AllReadyH.cons rfl (fun K hK => ?_) AllReadyH.nil
    go_simp
    go_at_call 13
    refine (HC2.out _ (HS4.out.keep hHeld).2.2.1).mono ?_
    rintro e w6b ⟨rfl, hb6b⟩
    try go_simp
    refine hK.out _ _ ?_ (fun hHeld => ?_)
    · exact hHeld.trans (hb6b.mono hHeld.size)
    clear hK K
    try simp only [Act.put, List.setIfInBounds_toArray, List.set_cons_zero, List.set_cons_succ]
    refine wpAnyH_ready (rs := [6]) (by kernel_rfl) (by simp) ?_
    refine AllReadyH.cons rfl (fun K hK => ?_) AllReadyH.nil
    go_simp
    go_at_call 14
    refine (HC3.out _).mono ?_
    rintro e w6c ⟨rfl, hb6c⟩
    try go_simp
    refine hK.out _ _ ?_ (fun hHeld => ?_)
    · exact hHeld.trans (hb6c.mono hHeld.size)
    clear hK K
    try simp only [Act.put, List.setIfInBounds_toArray, List.set_cons_zero, List.set_cons_succ]
    refine wpAnyH_ready (rs := [9]) (by kernel_rfl) (by simp) ?_
    refine AllReadyH.cons rfl (fun K hK => ?_) AllReadyH.nil
    go_simp
    go_at_call 15
    refine (HC4.out _).mono ?_
    rintro e w6d ⟨rfl, hb6d⟩
    try go_simp
    refine hK.out _ _ ?_ (fun hHeld => ?_)
    · exact hHeld.trans (hb6d.mono hHeld.size)
    clear hK K
    try simp only [Act.put, List.setIfInBounds_toArray, List.set_cons_zero, List.set_cons_succ]
    refine wpAnyH_ready (rs := [10]) (by kernel_rfl) (by simp) ?_
    refine AllReadyH.cons rfl (fun K hK => ?_) AllReadyH.nil
    go_simp
    refine hK.out _ _ ?_ (fun hHeld => ?_)
    · exact hHeld.alloc hHeld.size _
    clear hK K
    try simp only [Act.put, List.setIfInBounds_toArray, List.set_cons_zero, List.set_cons_succ]
    refine wpAnyH_ready (rs := [11]) (by kernel_rfl) (by simp) ?_
    refine AllReadyH.cons rfl (fun K hK => ?_) AllReadyH.nil
    go_simp
    go_at_call 12
    refine (first_any _ _ _ [E1, E2, E3, E4] _ ?_ rfl (by simp)).mono ?_
    · exact Rd.new _ _ _ _ (by simp)
    rintro e w7 ⟨rfl, rfl⟩
    rw [HON.out]
    try go_simp
    refine hK.out _ _ ?_ (fun hHeld => ?_)
    · exact hHeld
    clear hK K
    try simp only [Act.put, List.setIfInBounds_toArray, List.set_cons_zero, List.set_cons_succ]
    refine wpAnyH_take (i := 12) (oi := ⟨some 10, _, _, _, _, _⟩) (v := ?_) rfl (by kernel_rfl) (by kernel_rfl) (by kernel_rfl) (fun _ _ _ h => h) (Or.inl ⟨by kernel_rfl, ?_⟩) hHeld ?_
    rotate_left
    · intro w1 hSw; (try dsimp only at hSw); go_simp <;> with_reducible rfl
    try simp only [Act.put, List.setIfInBounds_toArray, List.set_cons_zero, List.set_cons_succ]
    refine wpAnyH_done (by kernel_rfl) ?_ _
    refine genR (fun V => LaS w A C xs ys n0 n1 V ∧ Row V g5 27 [.int .i64 bn, .int .i64 bd]) ⟨HS4.out.keep hHeld, H5.out.old hHeld⟩ ?_
    clear hHeld HS4 H5 HC1 HC2 HC3 HC4
    rintro W7 ⟨s7, r7⟩
    have HS7 := Lib.hid s7; have H7 := Lib.hid r7
    clear s7 r7
    go_upto_if 59 with (refine wpList_store_row rfl 27 _ _ rfl W7.heap.size #[.int .i64 0, .int .i64 0] rfl rfl 27 _ (Row.new W7 27 [.int .i64 0, .int .i64 0]) ?_ ?_ ?_ ?_; (kernel_rfl); (rfl); (simp [Value.oneCell']))
    have nb := new_below W7 (.cells #[.int .i64 0, .int .i64 0] 27) #[.int .i64 0, .int .i64 0]
    refine genR (fun V => Below W7.heap.size W7 V ∧ Row V W7.heap.size 27 [.int .i64 0, .int .i64 0]) ⟨nb, new_row W7 27 [.int .i64 0, .int .i64 0] [.int .i64 0, .int .i64 0]⟩ ?_
    clear nb
    rintro W8 ⟨n8, r9⟩
    have HN8 := Lib.hid n8
    have HS8 := Lib.hid (HS7.out.keep n8); have H9 := Lib.hid r9
    clear n8 r9
    go_cut [10, 11] from 59 to 70 (fun s10 s11 wx => s10 = .int .i64 CE ∧ s11 = .int .i64 sh ∧ LaS w A C xs ys n0 n1 wx ∧ Row wx g5 27 [.int .i64 bn, .int .i64 bd] ∧ Row wx W7.heap.size 27 [.int .i64 bn, .int .i64 bd])
    case first =>
      by_cases hE : ONE = 0
      · have HRF2 := Lib.hid (HRF.out hE)
        have hE2 : (ONE == 0) = true := by simpa using hE
        have c0 := HS8.out.1.cell 0; have c1 := HS8.out.1.cell 1
        simp only [List.getElem?_cons_succ, List.getElem?_cons_zero] at c0 c1
        clear HRF HNO hE HON
        go_wp2_with (first | (go_at_call 16; refine (HRF2.out _ HS8.out.2.1 HS8.out.2.2.1).mono ?_; rintro e w9 ⟨rfl, hb9⟩; have K9 := Lib.hid (H9.out.old hb9); have KB9 := Lib.hid (HN8.out.trans (hb9.mono HN8.out.size)); clear hb9) | (refine wpList_store_row rfl 27 _ _ rfl W7.heap.size #[.int .i64 bn, .int .i64 bd] rfl rfl 27 _ K9.out ?_ ?_ ?_ ?_; (kernel_rfl); (rfl); (simp [Value.oneCell'])))
        go_meet
        have nb : Below W7.heap.size W7 (w9.setRow W7.heap.size #[.int .i64 bn, .int .i64 bd]) := Below.setRow KB9.out (Nat.le_refl _) _
        exact ⟨rfl, rfl, HS7.out.keep nb, H7.out.old nb, K9.out.setRow _⟩
      · have hE2 : (ONE == 0) = false := by simpa using hE
        obtain ⟨f1, f2, f3, f4⟩ := HNO.out hE
        subst f1 f2 f3 f4
        clear HRF HNO hE HON
        go_wp2_with fail
        go_meet
        exact ⟨rfl, rfl, HS8.out, H7.out.old HN8.out, H9.out⟩
    case rest =>
      obtain ⟨rfl, rfl, s9, r5, r9⟩ := hcut
      have HS9 := Lib.hid s9; have H5 := Lib.hid r5; have H9' := Lib.hid r9
      clear s9 r5 r9 HS8 HS7 H7 HN8 H9 HRF HNO HON
      obtain ⟨W9, hW9⟩ : ∃ W9 : World, W9 = wc := ⟨_, rfl⟩
      subst hW9
      have H9 := H9'
      have k0 := H5.out.cell 0; have k1 := H5.out.cell 1; have k2 := H9.out.cell 0; have k3 := H9.out.cell 1
      simp only [List.getElem?_cons_succ, List.getElem?_cons_zero] at k0 k1 k2 k3
      go_wp2_with (go_at_call 9; refine (haw _ HS9.out.2.2.2.1).mono ?_; rintro e v5 ⟨rfl, hb5⟩; have HBV := Lib.hid (HS9.out.2.2.2.2.trans (hb5.mono HS9.out.2.2.2.2.size)); clear hb5)
      go_ret
      exact ⟨rfl, HBV.out⟩
end Go.Proofs.YtdglifjhkjdogaaGreatDoor

/- The law of aligned samples: what its walk wants. -/
namespace Go.Proofs.YtdglifjhkjdogaaGreatDoor
set_option linter.all false
open Go.RowKit Go.Fl
set_option linter.unusedVariables false
set_option linter.unusedSimpArgs false

theorem range_in3 {n lo hi : Int} (h : whenI (rangeB n lo hi) 3 = 0) : lo ≤ n ∧ n ≤ hi := by
  unfold whenI rangeB at h
  simp at h
  omega
theorem shortB_le {n : Nat} (h : shortB n = true) : n ≤ 4097 := by
  unfold shortB at h
  simp at h
  omega

set_option maxRecDepth 100000 in
theorem recordAligns_ok (haw : AwakeOk) (A C : Option Addr) (c e1 : Nat) (xs ys : List Nat) (n0 n1 : Int) (w : World) (haW : Aw w) (hA : Rd w A (flts xs)) (hC : Rd w C (flts ys)) (hx : xs.length ≤ 9223372036854775807) (hy : ys.length ≤ 9223372036854775807)
    (hlc : xs.length ≤ c) (hca : A = none → c = 0) (hlc2 : ys.length ≤ e1) (hca2 : C = none → e1 = 0) :
    Calls Tryz.prog 3 #[.slice A xs.length c, .slice C ys.length e1, .agg #[.int .i64 n0, .int .i64 n1]] w fun e w' => e = .returned (.bool true) ∧ Below w.heap.size w w' := by
  cases hs : shortB xs.length
  · exact aligns_far1 haw A C c e1 xs ys n0 n1 w haW hA hC hx hy hs
  cases hs2 : shortB ys.length
  · exact aligns_far2 haw A C c e1 xs ys n0 n1 w haW hA hC hx hy hs hs2
  by_cases hn0 : 40 < n0 ∧ n0 ≤ 256
  · exact aligns_far3 haw A C c e1 xs ys n0 n1 w haW hA hC hx hy hs hs2 hn0.1 hn0.2
  have hl := shortB_le hs
  have hl2 := shortB_le hs2
  have hF1 := fun (W : World) (h : Rd W A (flts xs)) => (floats_any A xs.length c xs W h rfl hca (by omega)).mono (R' := fun e w' => ∃ GA gc, e = .returned (.slice GA xs.length gc) ∧ Rd w' GA (flts xs) ∧ Below W.heap.size W w') fun e w' ⟨v, h1, h2, h3⟩ => by
    obtain ⟨B, d, rfl, hB⟩ := owned_slice h2
    exact ⟨B, d, h1, hB, h3⟩
  have hF2 := fun (W : World) (h : Rd W C (flts ys)) => (floats_any C ys.length e1 ys W h rfl hca2 (by omega)).mono (R' := fun e w' => ∃ GA gc, e = .returned (.slice GA ys.length gc) ∧ Rd w' GA (flts ys) ∧ Below W.heap.size W w') fun e w' ⟨v, h1, h2, h3⟩ => by
    obtain ⟨B, d, rfl, hB⟩ := owned_slice h2
    exact ⟨B, d, h1, hB, h3⟩
  have hC1 := fun (W : World) (h : Rd W A (flts xs)) => checkSamplesR_any A xs.length c xs W h rfl hlc hx
  have hC2 := fun (W : World) (h : Rd W C (flts ys)) => checkSamplesR_any C ys.length e1 ys W h rfl hlc2 hy
  have hC3 := fun (W : World) => (checkReach_any n0 W).mono (R' := fun e w' => e = .returned (.int .i64 (whenI (rangeB n0 0 256) 3)) ∧ Below W.heap.size W w') fun e w' ⟨h1, h2⟩ => ⟨h1, h2 ▸ Below.refl _ _⟩
  have hC4 := fun (W : World) => (checkLeast_any n1 W).mono (R' := fun e w' => e = .returned (.int .i64 (whenI (rangeB n1 1 4096) 3)) ∧ Below W.heap.size W w') fun e w' ⟨h1, h2⟩ => ⟨h1, h2 ▸ Below.refl _ _⟩
  by_cases hJ : alE xs ys n0 n1 = 0
  · have hz := firstI_allz hJ
    have h1 : sampsI xs = 0 := hz _ (by simp)
    have h2 : sampsI ys = 0 := hz _ (by simp)
    have h3 := range_in3 (hz (whenI (rangeB n0 0 256) 3) (by simp))
    have h4 := range_in3 (hz (whenI (rangeB n1 1 4096) 3) (by simp))
    obtain ⟨hx4, hvx⟩ := samps_zero h1
    obtain ⟨hy4, hvy⟩ := samps_zero h2
    obtain ⟨r, hr⟩ : ∃ r, r = alignL (xs.map unitI) (ys.map unitI) n0 n1 := ⟨_, rfl⟩
    have hP := fun (W : World) (GA : Option Addr) (gc : Nat) (HA : Option Addr) (hc : Nat) (g1 : Rd W GA (flts xs)) (g2 : Rd W HA (flts ys)) => aligned_any GA HA gc hc xs ys xs.length ys.length n0 n1 W g1 g2 rfl rfl hx4 hy4 h1 h2 hvx hvy h3 h4
    have hQ := fun (W : World) (g1 : Rd W A (flts xs)) (g2 : Rd W C (flts ys)) => alignedR_any A C c e1 xs ys xs.length ys.length n0 n1 W g1 g2 rfl rfl hx4 hy4 hvx hvy h3 h4
    rw [← hr] at hP hQ
    by_cases hr0 : r.2.1 = 0
    · rw [alRes, if_pos hr0] at hP hQ
      exact aligns_walk haw A C c e1 xs ys n0 n1 w haW hA hC hx hy hs hs2 hn0 0 0 0 16 _ _ _ _ _ hF1 hF2 hP hC1 hC2 hC3 hC4 rfl (fun _ => hQ) (fun h => absurd hJ h)
    · rw [alRes, if_neg hr0] at hP hQ
      exact aligns_walk haw A C c e1 xs ys n0 n1 w haW hA hC hx hy hs hs2 hn0 r.2.2 r.1 r.2.1 0 _ _ _ _ _ hF1 hF2 hP hC1 hC2 hC3 hC4 rfl (fun _ => hQ) (fun h => absurd hJ h)
  · have hP := fun (W : World) (GA : Option Addr) (gc : Nat) (HA : Option Addr) (hc : Nat) (g1 : Rd W GA (flts xs)) (g2 : Rd W HA (flts ys)) => aligned_bad GA HA gc hc xs ys xs.length ys.length n0 n1 W g1 g2 rfl rfl (by omega) (by omega) hJ
    exact aligns_walk haw A C c e1 xs ys n0 n1 w haW hA hC hx hy hs hs2 hn0 0 0 0 (alE xs ys n0 n1) _ _ _ _ _ hF1 hF2 hP hC1 hC2 hC3 hC4 rfl (fun h => absurd h hJ) (fun _ => ⟨rfl, rfl, rfl, rfl⟩)
end Go.Proofs.YtdglifjhkjdogaaGreatDoor
