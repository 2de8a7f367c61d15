import Derived.Test.YtdglifjhkjdogaaGreatDoorM31
import Derived.Test.YtdglifjhkjdogaaGreatDoorM25
/- Contracts: two lists of samples aligned by the reference. -/
namespace Go.Proofs.YtdglifjhkjdogaaGreatDoor
set_option linter.all false
open Go.RowKit Go.Fl
set_option linter.unusedVariables false
set_option linter.unusedSimpArgs false

set_option maxRecDepth 100000 in
set_option maxHeartbeats 3000000 in
theorem alignedR_any (A B : Option Addr) (c d : Nat) (xs ys : List Nat) (n m : Nat) (reach least : Int) (w : World) (hA : Rd w A (flts xs)) (hB : Rd w B (flts ys)) (hn : n = xs.length) (hm : m = ys.length) (hx : xs.length ≤ 4096) (hy : ys.length ≤ 4096) (hvx : ∀ x ∈ xs, sampI x = 0) (hvy : ∀ y ∈ ys, sampI y = 0) (hr : 0 ≤ reach ∧ reach ≤ 256) (hl : 1 ≤ least ∧ least ≤ 4096) :
    Calls Tryz.prog 16 #[.slice A n c, .slice B m d, .int .i64 reach, .int .i64 least] w fun e w' => e = .returned (.tuple (alRes (alignL (xs.map unitI) (ys.map unitI) reach least))) ∧ Below w.heap.size w w' := by
  subst hn; subst hm
  have HA : Hid (∀ W, Below w.heap.size w W → Rd W A (flts xs)) := fun W h => hA.below h
  have HB : Hid (∀ W, Below w.heap.size w W → Rd W B (flts ys)) := fun W h => hB.below h
  have HVX := Lib.hid hvx; have HVY := Lib.hid hvy
  clear hA hB hvx hvy
  obtain ⟨AL, hAL⟩ : ∃ AL, AL = alignL (xs.map unitI) (ys.map unitI) reach least := ⟨_, rfl⟩
  rw [← hAL]
  have HALD := Lib.hid hAL
  clear hAL
  go_enter Tryz.func16, Tryz.ntmps16
  go_upto_region 1 with fail
  refine genA w.heap.size 27 [.int .i64 0, .int .i64 0] (Row.new w 27 [.int .i64 0, .int .i64 0]) ((Below.refl w.heap.size w).alloc (Nat.le_refl _) _) ?_
  intro W R0 RB
  have HR := Lib.hid R0; have HRB := Lib.hid RB
  clear R0 RB
  go_wp2_with (first
    | (go_at_call 66; refine Calls.mono (integers_any _ _ _ ?_ _ ?_ ?_ ?_ ?_) ?_; rotate_left; exact HA.out _ HRB.out; rfl; omega; exact HVX.out; rintro e w1 ⟨v1, rfl, ho1, hb1⟩; obtain ⟨A1, c1, rfl, hr1⟩ := owned_slice ho1; have HX1 := Lib.hid hr1; have HB1 := Lib.hid (HRB.out.trans (hb1.mono HRB.out.size)); have HR1 := Lib.hid (HR.out.old hb1); clear ho1 hb1 hr1)
    | (go_at_call 66; refine Calls.mono (integers_any _ _ _ ?_ _ ?_ ?_ ?_ ?_) ?_; rotate_left; exact HB.out _ HB1.out; rfl; omega; exact HVY.out; rintro e w2 ⟨v2, rfl, ho2, hb2⟩; obtain ⟨A2, c2, rfl, hr2⟩ := owned_slice ho2; have HX2 := Lib.hid (HX1.out.below hb2); have HY2 := Lib.hid hr2; have HB2 := Lib.hid (HB1.out.trans (hb2.mono HB1.out.size)); have HR2 := Lib.hid (HR1.out.old hb2); clear ho2 hb2 hr2))
  go_upto_region 4 with fail
  refine genA w2.heap.size 27 [.int .i64 0, .int .i64 0] (Row.new w2 27 [.int .i64 0, .int .i64 0]) ((Below.refl w2.heap.size w2).alloc (Nat.le_refl _) _) ?_
  intro w6 r6 b6
  have R6 := Lib.hid r6; have B6 := Lib.hid b6
  clear r6 b6
  go_wp2
  obtain ⟨X, hX⟩ : ∃ X, X = xs.map unitI := ⟨_, rfl⟩
  obtain ⟨Y, hY⟩ : ∃ Y, Y = ys.map unitI := ⟨_, rfl⟩
  have HXL : Hid (X.length = xs.length ∧ Y.length = ys.length) := by rw [hX, hY]; exact ⟨List.length_map _, List.length_map _⟩
  have HXB : Hid (∀ x ∈ X, x.natAbs ≤ 65536) := by
    rw [hX]; intro x hx; obtain ⟨v, hv, rfl⟩ := List.mem_map.1 hx; have := unitI_bd (HVX.out v hv); omega
  have HYB : Hid (∀ y ∈ Y, y.natAbs ≤ 65536) := by
    rw [hY]; intro x hx; obtain ⟨v, hv, rfl⟩ := List.mem_map.1 hx; have := unitI_bd (HVY.out v hv); omega
  have HX5 : Hid (Rd w2 A1 (ints X)) := by rw [hX]; exact HX2.out
  have HY5 : Hid (Rd w2 A2 (ints Y)) := by rw [hY]; exact HY2.out
  have HAL : Hid (rfGo X Y least (2 * reach + 1).toNat (-reach) (0, 0, 0) = alignL (xs.map unitI) (ys.map unitI) reach least) := by
    unfold Hid; rw [← hX, ← hY]; exact rfGo_align X Y reach least HXB.out HYB.out (by rw [HXL.out.1]; exact hx) hl.1
  clear hX hY HA HB HVX HVY HX1 HX2 HY2
  rw [← HALD.out] at HAL
  clear HALD
  go_loopg [13, 14, 16] (2 * reach + 1).toNat (fun g fo sh s wr => ∃ (s' : Int) (b0 b1 b2 : Int), s = .int .i64 s' ∧ sh = .int .i64 b2 ∧ fo = .bool (b1 != 0) ∧ -reach ≤ s' ∧ s' ≤ reach + 1 ∧ g = (reach - s' + 1).toNat ∧ Hid (rfGo X Y least g s' (b0, b1, b2) = AL) ∧ Hid (0 ≤ b0 ∧ b0 ≤ 536870912 ∧ 0 ≤ b1 ∧ b1 ≤ 4096) ∧ Hid (Row wr w2.heap.size 27 [.int .i64 b0, .int .i64 b1]) ∧ Hid (Below w2.heap.size w2 wr))
  case atStart => exact ⟨-reach, 0, 0, 0, rfl, rfl, rfl, by omega, by omega, by omega, HAL, ⟨by decide, by decide, by decide, by decide⟩, R6, B6⟩
  case round =>
    obtain ⟨s, b0, b1, b2, rfl, rfl, rfl, hs1, hs2, hg, HG, Hb, HRb, HBw⟩ := hrel
    by_cases hlt : s ≤ reach
    · have hX := HXL.out.1; have hY := HXL.out.2
      obtain ⟨k0, hk0⟩ : ∃ k, (reach - s + 1).toNat = k + 1 := ⟨(reach - s).toNat, by omega⟩
      subst hg
      rw [hk0] at HG
      have HK1 := Lib.hid (show k0 = (reach - (s + 1) + 1).toNat by omega)
      go_wp2
      try go_step3
      go_wp2
      go_loopw [17, 18, 19] (fun sm mn i wv => ∃ k : Nat, k ≤ xs.length ∧ i = .int .i64 k ∧ sm = .int .i64 (inS X Y s k).1 ∧ mn = .int .i64 (inS X Y s k).2 ∧ ∃ q, wv = wr.drewN q) (fun _ _ i _ => xs.length - (intOf i).toNat)
      case atStart => exact ⟨0, Nat.zero_le _, rfl, rfl, rfl, 0, rfl⟩
      case round =>
        obtain ⟨k, hk, rfl, rfl, rfl, q, rfl⟩ := hrel
        by_cases hlt2 : k < xs.length
        · obtain ⟨k2, hk2⟩ : ∃ k2, k2 = (k : Int) + s := ⟨_, rfl⟩
          have e1 : IntKind.i64.wrap ((k : Int) + s) = k2 := by rw [hk2]; exact IntWalk.i64_in _ (by omega)
          have hbd := inS_bd X Y s k HXB.out HYB.out
          obtain ⟨sm, hsm⟩ : ∃ sm, sm = (inS X Y s k).1 := ⟨_, rfl⟩
          obtain ⟨mn, hmn⟩ : ∃ mn, mn = (inS X Y s k).2 := ⟨_, rfl⟩
          have hpr : inS X Y s k = (sm, mn) := Prod.ext hsm.symm hmn.symm
          rw [← hsm, ← hmn] at hbd ⊢
          have HK2 := Lib.hid hk2; have HPR := Lib.hid hpr
          clear hk2 hsm hmn hpr
          by_cases hc : 0 ≤ k2 ∧ k2 < ys.length
          · obtain ⟨hc0, hc1⟩ := hc
            obtain ⟨j, hj⟩ : ∃ j : Nat, k2 = (j : Int) := ⟨k2.toNat, by omega⟩
            subst hj
            have hBq : Below w2.heap.size w2 (wr.drewN q) := ⟨HBw.out.os, HBw.out.tape, HBw.out.output, HBw.out.size, HBw.out.block⟩
            have HX9 : Rd (wr.drewN q) A1 (ints X) := HX5.out.below hBq
            have HY9 : Rd (wr.drewN q) A2 (ints Y) := HY5.out.below hBq
            obtain ⟨b, off, hA1, hc1'⟩ := Rd.int HX9 (j := k) (by omega)
            obtain ⟨b', off', hA2, hc2'⟩ := Rd.int HY9 (j := j) (by omega)
            subst hA1; subst hA2
            obtain ⟨x, hxx⟩ : ∃ x, x = X[k]'(by omega) := ⟨_, rfl⟩
            obtain ⟨y, hyy⟩ : ∃ y, y = Y[j]'(by omega) := ⟨_, rfl⟩
            have hx1 := HXB.out _ (List.getElem_mem (show k < X.length by omega))
            have hy1 := HYB.out _ (List.getElem_mem (show j < Y.length by omega))
            rw [← hxx] at hc1' hx1; rw [← hyy] at hc2' hy1
            have gx : X.getD k 0 = x := by rw [hxx]; exact getD_in _ _ _
            have gy : Y.getD j 0 = y := by rw [hyy]; exact getD_in _ _ _
            have hst : Hid (inS X Y s (k + 1) = (sm + max x y - min x y, mn + 1)) := by
              unfold Hid; unfold inS
              have h1 := HK2.out
              rw [if_pos (by omega), HPR.out, ← h1, Int.toNat_natCast, gx, gy]
              refine Prod.ext ?_ rfl
              show sm + max (x - y) (y - x) = _
              omega
            have m1 : IntKind.i64.wrap (sm + max x y) = sm + max x y := IntWalk.i64_in _ (by omega)
            have m2 : IntKind.i64.wrap (sm + max x y - min x y) = sm + max x y - min x y := IntWalk.i64_in _ (by omega)
            have m3 : IntKind.i64.wrap (mn + 1) = mn + 1 := IntWalk.i64_in _ (by omega)
            have i1 : (k : Int) < (xs.length : Int) := by omega
            clear hx1 hy1 hxx hyy gx gy HX9 HY9 hBq hbd
            go_wp2
            refine wp_region_held_drew (S := fun w' => w'.cell? ⟨b, off + k, none⟩ = some (.int .i64 x) ∧ w'.cell? ⟨b', off' + j, none⟩ = some (.int .i64 y)) (by kernel_rfl) ?_ (fun hHeld => ?_)
            · exact ⟨hc1', hc2'⟩
            refine wpAnyH_take (i := 0) (oi := ⟨some 51, _, _, _, _, _⟩) (v := ?_) rfl (by kernel_rfl) (by kernel_rfl) (by kernel_rfl) (fun _ _ _ h => h) (Or.inl ⟨by kernel_rfl, ?_⟩) hHeld ?_
            rotate_left
            · intro w1 hSw; (try dsimp only at hSw); go_simp <;> with_reducible rfl
            try simp only [Act.put, List.setIfInBounds_toArray, List.set_cons_zero, List.set_cons_succ]
            refine wpAnyH_take (i := 1) (oi := ⟨some 52, _, _, _, _, _⟩) (v := ?_) rfl (by kernel_rfl) (by kernel_rfl) (by kernel_rfl) (fun _ _ _ h => h) (Or.inl ⟨by kernel_rfl, ?_⟩) hHeld ?_
            rotate_left
            · intro w1 hSw; (try dsimp only at hSw); go_simp <;> with_reducible rfl
            try simp only [Act.put, List.setIfInBounds_toArray, List.set_cons_zero, List.set_cons_succ]
            refine wpAnyH_take (i := 2) (oi := ⟨some 53, _, _, _, _, _⟩) (v := ?_) rfl (by kernel_rfl) (by kernel_rfl) (by kernel_rfl) (fun _ _ _ h => h) (Or.inl ⟨by kernel_rfl, ?_⟩) hHeld ?_
            rotate_left
            · intro w1 hSw; (try dsimp only at hSw); go_simp <;> with_reducible rfl
            try simp only [Act.put, List.setIfInBounds_toArray, List.set_cons_zero, List.set_cons_succ]
            refine wpAnyH_take (i := 3) (oi := ⟨some 54, _, _, _, _, _⟩) (v := ?_) rfl (by kernel_rfl) (by kernel_rfl) (by kernel_rfl) (fun _ _ _ h => h) (Or.inl ⟨by kernel_rfl, ?_⟩) hHeld ?_
            rotate_left
            · intro w1 hSw; (try dsimp only at hSw); go_simp <;> with_reducible rfl
            try simp only [Act.put, List.setIfInBounds_toArray, List.set_cons_zero, List.set_cons_succ]
            refine wpAnyH_take (i := 4) (oi := ⟨some 55, _, _, _, _, _⟩) (v := ?_) rfl (by kernel_rfl) (by kernel_rfl) (by kernel_rfl) (fun _ _ _ h => h) (Or.inl ⟨by kernel_rfl, ?_⟩) hHeld ?_
            rotate_left
            · intro w1 hSw; (try dsimp only at hSw); go_simp <;> with_reducible rfl
            try simp only [Act.put, List.setIfInBounds_toArray, List.set_cons_zero, List.set_cons_succ]
            refine wpAnyH_take (i := 5) (oi := ⟨some 56, _, _, _, _, _⟩) (v := ?_) rfl (by kernel_rfl) (by kernel_rfl) (by kernel_rfl) (fun _ _ _ h => h) (Or.inl ⟨by kernel_rfl, ?_⟩) hHeld ?_
            rotate_left
            · intro w1 hSw; (try dsimp only at hSw); go_simp <;> with_reducible rfl
            try simp only [Act.put, List.setIfInBounds_toArray, List.set_cons_zero, List.set_cons_succ]
            refine wpAnyH_take (i := 6) (oi := ⟨some 57, _, _, _, _, _⟩) (v := ?_) rfl (by kernel_rfl) (by kernel_rfl) (by kernel_rfl) (fun _ _ _ h => h) (Or.inl ⟨by kernel_rfl, ?_⟩) hHeld ?_
            rotate_left
            · intro w1 hSw; (try dsimp only at hSw); go_simp <;> with_reducible rfl
            try simp only [Act.put, List.setIfInBounds_toArray, List.set_cons_zero, List.set_cons_succ]
            refine wpAnyH_take (i := 7) (oi := ⟨some 58, _, _, _, _, _⟩) (v := ?_) rfl (by kernel_rfl) (by kernel_rfl) (by kernel_rfl) (fun _ _ _ h => h) (Or.inl ⟨by kernel_rfl, ?_⟩) hHeld ?_
            rotate_left
            · intro w1 hSw; (try dsimp only at hSw); go_simp <;> with_reducible rfl
            try simp only [Act.put, List.setIfInBounds_toArray, List.set_cons_zero, List.set_cons_succ]
            refine wpAnyH_take (i := 8) (oi := ⟨some 59, _, _, _, _, _⟩) (v := ?_) rfl (by kernel_rfl) (by kernel_rfl) (by kernel_rfl) (fun _ _ _ h => h) (Or.inl ⟨by kernel_rfl, ?_⟩) hHeld ?_
            rotate_left
            · intro w1 hSw; (try dsimp only at hSw); go_simp <;> with_reducible rfl
            try simp only [Act.put, List.setIfInBounds_toArray, List.set_cons_zero, List.set_cons_succ]
            refine wpAnyH_take (i := 9) (oi := ⟨some 60, _, _, _, _, _⟩) (v := ?_) rfl (by kernel_rfl) (by kernel_rfl) (by kernel_rfl) (fun _ _ _ h => h) (Or.inl ⟨by kernel_rfl, ?_⟩) hHeld ?_
            rotate_left
            · intro w1 hSw; (try dsimp only at hSw); go_simp <;> with_reducible rfl
            try simp only [Act.put, List.setIfInBounds_toArray, List.set_cons_zero, List.set_cons_succ]
            refine wpAnyH_take (i := 10) (oi := ⟨some 61, _, _, _, _, _⟩) (v := ?_) rfl (by kernel_rfl) (by kernel_rfl) (by kernel_rfl) (fun _ _ _ h => h) (Or.inl ⟨by kernel_rfl, ?_⟩) hHeld ?_
            rotate_left
            · intro w1 hSw; (try dsimp only at hSw); go_simp <;> with_reducible rfl
            try simp only [Act.put, List.setIfInBounds_toArray, List.set_cons_zero, List.set_cons_succ]
            refine wpAnyH_take (i := 11) (oi := ⟨some 62, _, _, _, _, _⟩) (v := ?_) rfl (by kernel_rfl) (by kernel_rfl) (by kernel_rfl) (fun _ _ _ h => h) (Or.inl ⟨by kernel_rfl, ?_⟩) hHeld ?_
            rotate_left
            · intro w1 hSw; (try dsimp only at hSw); go_simp <;> with_reducible rfl
            try simp only [Act.put, List.setIfInBounds_toArray, List.set_cons_zero, List.set_cons_succ]
            refine wpAnyH_take (i := 12) (oi := ⟨some 63, _, _, _, _, _⟩) (v := ?_) rfl (by kernel_rfl) (by kernel_rfl) (by kernel_rfl) (fun _ _ _ h => h) (Or.inl ⟨by kernel_rfl, ?_⟩) hHeld ?_
            rotate_left
            · intro w1 hSw; (try dsimp only at hSw); go_simp <;> with_reducible rfl
            try simp only [Act.put, List.setIfInBounds_toArray, List.set_cons_zero, List.set_cons_succ]
            refine wpAnyH_take (i := 13) (oi := ⟨some 64, _, _, _, _, _⟩) (v := ?_) rfl (by kernel_rfl) (by kernel_rfl) (by kernel_rfl) (fun _ _ _ h => h) (Or.inl ⟨by kernel_rfl, ?_⟩) hHeld ?_
            rotate_left
            · intro w1 hSw; (try dsimp only at hSw); go_simp <;> with_reducible rfl
            try simp only [Act.put, List.setIfInBounds_toArray, List.set_cons_zero, List.set_cons_succ]
            refine wpAnyH_take (i := 14) (oi := ⟨some 65, _, _, _, _, _⟩) (v := ?_) rfl (by kernel_rfl) (by kernel_rfl) (by kernel_rfl) (fun _ _ _ h => h) (Or.inl ⟨by kernel_rfl, ?_⟩) hHeld ?_
            rotate_left
            · intro w1 hSw; (try dsimp only at hSw); go_simp <;> with_reducible rfl
            try simp only [Act.put, List.setIfInBounds_toArray, List.set_cons_zero, List.set_cons_succ]
            refine wpAnyH_take (i := 15) (oi := ⟨some 66, _, _, _, _, _⟩) (v := ?_) rfl (by kernel_rfl) (by kernel_rfl) (by kernel_rfl) (fun _ _ _ h => h) (Or.inl ⟨by kernel_rfl, ?_⟩) hHeld ?_
            rotate_left
            · intro w1 hSw; (try dsimp only at hSw); go_simp <;> with_reducible rfl
            try simp only [Act.put, List.setIfInBounds_toArray, List.set_cons_zero, List.set_cons_succ]
            refine wpAnyH_take (i := 16) (oi := ⟨some 67, _, _, _, _, _⟩) (v := ?_) rfl (by kernel_rfl) (by kernel_rfl) (by kernel_rfl) (fun _ _ _ h => h) (Or.inl ⟨by kernel_rfl, ?_⟩) hHeld ?_
            rotate_left
            · intro w1 hSw; (try dsimp only at hSw); go_simp <;> with_reducible rfl
            try simp only [Act.put, List.setIfInBounds_toArray, List.set_cons_zero, List.set_cons_succ]
            refine wpAnyH_take (i := 17) (oi := ⟨some 68, _, _, _, _, _⟩) (v := ?_) rfl (by kernel_rfl) (by kernel_rfl) (by kernel_rfl) (fun _ _ _ h => h) (Or.inl ⟨by kernel_rfl, ?_⟩) hHeld ?_
            rotate_left
            · intro w1 hSw; (try dsimp only at hSw); go_simp <;> with_reducible rfl
            try simp only [Act.put, List.setIfInBounds_toArray, List.set_cons_zero, List.set_cons_succ]
            refine wpAnyH_take (i := 18) (oi := ⟨some 69, _, _, _, _, _⟩) (v := ?_) rfl (by kernel_rfl) (by kernel_rfl) (by kernel_rfl) (fun _ _ _ h => h) (Or.inl ⟨by kernel_rfl, ?_⟩) hHeld ?_
            rotate_left
            · intro w1 hSw; (try dsimp only at hSw); go_simp <;> with_reducible rfl
            try simp only [Act.put, List.setIfInBounds_toArray, List.set_cons_zero, List.set_cons_succ]
            refine wpAnyH_take (i := 19) (oi := ⟨some 70, _, _, _, _, _⟩) (v := ?_) rfl (by kernel_rfl) (by kernel_rfl) (by kernel_rfl) (fun _ _ _ h => h) (Or.inl ⟨by kernel_rfl, ?_⟩) hHeld ?_
            rotate_left
            · intro w1 hSw; (try dsimp only at hSw); go_simp <;> with_reducible rfl
            try simp only [Act.put, List.setIfInBounds_toArray, List.set_cons_zero, List.set_cons_succ]
            refine wpAnyH_take (i := 20) (oi := ⟨some 71, _, _, _, _, _⟩) (v := ?_) rfl (by kernel_rfl) (by kernel_rfl) (by kernel_rfl) (fun _ _ _ h => h) (Or.inl ⟨by kernel_rfl, ?_⟩) hHeld ?_
            rotate_left
            · intro w1 hSw; (try dsimp only at hSw); go_simp <;> with_reducible rfl
            try simp only [Act.put, List.setIfInBounds_toArray, List.set_cons_zero, List.set_cons_succ]
            refine wpAnyH_take (i := 21) (oi := ⟨some 72, _, _, _, _, _⟩) (v := ?_) rfl (by kernel_rfl) (by kernel_rfl) (by kernel_rfl) (fun _ _ _ h => h) (Or.inl ⟨by kernel_rfl, ?_⟩) hHeld ?_
            rotate_left
            · intro w1 hSw; (try dsimp only at hSw); go_simp <;> with_reducible rfl
            try simp only [Act.put, List.setIfInBounds_toArray, List.set_cons_zero, List.set_cons_succ]
            refine wpAnyH_take (i := 22) (oi := ⟨some 73, _, _, _, _, _⟩) (v := ?_) rfl (by kernel_rfl) (by kernel_rfl) (by kernel_rfl) (fun _ _ _ h => h) (Or.inl ⟨by kernel_rfl, ?_⟩) hHeld ?_
            rotate_left
            · intro w1 hSw; (try dsimp only at hSw); go_simp <;> with_reducible rfl
            try simp only [Act.put, List.setIfInBounds_toArray, List.set_cons_zero, List.set_cons_succ]
            refine wpAnyH_take (i := 23) (oi := ⟨some 74, _, _, _, _, _⟩) (v := ?_) rfl (by kernel_rfl) (by kernel_rfl) (by kernel_rfl) (fun _ _ _ h => h) (Or.inl ⟨by kernel_rfl, ?_⟩) hHeld ?_
            rotate_left
            · intro w1 hSw; (try dsimp only at hSw); go_simp <;> with_reducible rfl
            try simp only [Act.put, List.setIfInBounds_toArray, List.set_cons_zero, List.set_cons_succ]
            refine wpAnyH_take (i := 24) (oi := ⟨some 75, _, _, _, _, _⟩) (v := ?_) rfl (by kernel_rfl) (by kernel_rfl) (by kernel_rfl) (fun _ _ _ h => h) (Or.inl ⟨by kernel_rfl, ?_⟩) hHeld ?_
            rotate_left
            · intro w1 hSw; (try dsimp only at hSw); go_simp <;> with_reducible rfl
            try simp only [Act.put, List.setIfInBounds_toArray, List.set_cons_zero, List.set_cons_succ]
            refine wpAnyH_take (i := 25) (oi := ⟨some 76, _, _, _, _, _⟩) (v := ?_) rfl (by kernel_rfl) (by kernel_rfl) (by kernel_rfl) (fun _ _ _ h => h) (Or.inl ⟨by kernel_rfl, ?_⟩) hHeld ?_
            rotate_left
            · intro w1 hSw; (try dsimp only at hSw); go_simp <;> with_reducible rfl
            try simp only [Act.put, List.setIfInBounds_toArray, List.set_cons_zero, List.set_cons_succ]
            refine wpAnyH_take (i := 26) (oi := ⟨some 77, _, _, _, _, _⟩) (v := ?_) rfl (by kernel_rfl) (by kernel_rfl) (by kernel_rfl) (fun _ _ _ h => h) (Or.inl ⟨by kernel_rfl, ?_⟩) hHeld ?_
            rotate_left
            · intro w1 hSw; (try dsimp only at hSw); go_simp <;> with_reducible rfl
            try simp only [Act.put, List.setIfInBounds_toArray, List.set_cons_zero, List.set_cons_succ]
            refine wpAnyH_take (i := 27) (oi := ⟨some 17, _, _, _, _, _⟩) (v := ?_) rfl (by kernel_rfl) (by kernel_rfl) (by kernel_rfl) (fun _ _ _ h => h) (Or.inl ⟨by kernel_rfl, ?_⟩) hHeld ?_
            rotate_left
            · intro w1 hSw; (try dsimp only at hSw); go_simp <;> with_reducible rfl
            try simp only [Act.put, List.setIfInBounds_toArray, List.set_cons_zero, List.set_cons_succ]
            refine wpAnyH_take (i := 28) (oi := ⟨some 18, _, _, _, _, _⟩) (v := ?_) rfl (by kernel_rfl) (by kernel_rfl) (by kernel_rfl) (fun _ _ _ h => h) (Or.inl ⟨by kernel_rfl, ?_⟩) hHeld ?_
            rotate_left
            · intro w1 hSw; (try dsimp only at hSw); go_simp <;> with_reducible rfl
            try simp only [Act.put, List.setIfInBounds_toArray, List.set_cons_zero, List.set_cons_succ]
            refine wpAnyH_done (by kernel_rfl) ?_ _
            go_wp2
            have hmx : (if x < y then y else x) = max x y := by rw [Int.max_def]; split <;> split <;> omega
            have hmi : (if y < x then y else x) = min x y := by rw [Int.min_def]; split <;> split <;> omega
            refine ⟨⟨k + 1, by omega, by go_num, ?_, ?_, _, rfl⟩, by simp [intOf]; omega⟩
            · rw [hst.out, hmx, hmi, m1, m2]
            · rw [hst.out]
          · have hst : Hid (inS X Y s (k + 1) = (sm, mn)) := by
              unfold Hid; unfold inS
              have h1 := HK2.out
              rw [if_neg (by omega), HPR.out]
            clear hbd
            by_cases hc0 : 0 ≤ k2
            · have hc1 : ¬ k2 < (ys.length : Int) := fun h => hc ⟨hc0, h⟩
              clear hc
              go_wp2
              refine ⟨⟨k + 1, by omega, by go_num, by rw [hst.out], by rw [hst.out], _, rfl⟩, by simp [intOf]; omega⟩
            · clear hc
              go_wp2
              refine ⟨⟨k + 1, by omega, by go_num, by rw [hst.out], by rw [hst.out], _, rfl⟩, by simp [intOf]; omega⟩
        · obtain rfl : k = xs.length := by omega
          have hbd := inS_bd X Y s xs.length HXB.out HYB.out
          obtain ⟨sm, hsm⟩ : ∃ sm, sm = (inS X Y s xs.length).1 := ⟨_, rfl⟩
          obtain ⟨mn, hmn⟩ : ∃ mn, mn = (inS X Y s xs.length).2 := ⟨_, rfl⟩
          have hpr : inS X Y s X.length = (sm, mn) := by rw [hX]; exact Prod.ext hsm.symm hmn.symm
          rw [← hsm, ← hmn] at hbd ⊢
          have HPR := Lib.hid hpr
          clear hsm hmn hpr
          by_cases hm : mn < least
          · have HG2 : Hid (rfGo X Y least k0 (s + 1) (b0, b1, b2) = AL) := by unfold Hid; rw [← HG.out]; exact (rfGo_short X Y least k0 s _ sm mn HPR.out hm).symm
            have e4 : wrap64 (s + 1) = s + 1 := by unfold wrap64; omega
            clear hbd
            go_wp2
            go_roundg k0
            case measure => omega
            case rel => exact ⟨s + 1, b0, b1, b2, by go_num, rfl, rfl, by omega, by omega, HK1.out, HG2.out, Hb.out, HRb, ⟨HBw.out.os, HBw.out.tape, HBw.out.output, HBw.out.size, HBw.out.block⟩⟩
          · have hlow := low_bd sm mn (by omega) (by omega)
            obtain ⟨dn, hdn⟩ : ∃ dn, dn = sm.tdiv (gcdI sm mn) := ⟨_, rfl⟩
            obtain ⟨dd, hdd⟩ : ∃ dd, dd = mn / gcdI sm mn := ⟨_, rfl⟩
            have HLO : Hid (∀ W : World, Calls Tryz.prog 67 #[.int .i64 sm, .int .i64 mn] W fun e w' => e = .returned (.agg #[.int .i64 dn, .int .i64 dd]) ∧ Below W.heap.size W w') := fun W => by rw [hdn, hdd]; exact lowest_any sm mn W (by unfold Bd; omega) (by omega)
            have hgl := rfGo_long X Y least k0 s b0 b1 b2 sm mn HPR.out hm
            rw [← hdn, ← hdd] at hlow hgl
            rw [HG.out] at hgl
            have Hgl := Lib.hid hgl; have Hdb := Lib.hid hlow
            have HDD : Hid ((dd != 0) = true) := by unfold Hid; simp; omega
            obtain ⟨wq, hwq⟩ : ∃ wq, wq = wr.drewN q := ⟨_, rfl⟩
            have HRq : Hid (Row wq w2.heap.size 27 [.int .i64 b0, .int .i64 b1]) := by rw [hwq]; exact HRb.out
            have HBq : Hid (Below w2.heap.size w2 wq) := by rw [hwq]; exact ⟨HBw.out.os, HBw.out.tape, HBw.out.output, HBw.out.size, HBw.out.block⟩
            have e4 : wrap64 (s + 1) = s + 1 := by unfold wrap64; omega
            have He4 := Lib.hid e4
            rw [← hwq]
            clear hwq hgl hlow hdn hdd hbd e4 HPR HRb HBw
            go_upto_region 15 with (first
              | (go_at_call 67; refine (HLO.out _).mono ?_; rintro e w7 ⟨rfl, hb7⟩; have HB7 := Lib.hid hb7; clear hb7)
              | (refine wpList_store_row rfl 27 _ _ rfl w7.heap.size #[.int .i64 dn, .int .i64 dd] rfl rfl 27 _ (Row.new w7 27 [.int .i64 0, .int .i64 0]) ?_ ?_ ?_ ?_; (kernel_rfl); (rfl); (simp [Value.oneCell'])))
            have hbx7 := Below.setRow ((Below.refl w7.heap.size w7).alloc (Nat.le_refl _) (.cells #[.int .i64 0, .int .i64 0] 27)) (Nat.le_refl _) #[Value.int .i64 dn, .int .i64 dd]
            obtain ⟨wx, hwx⟩ : ∃ wx, wx = (w7.alloc (.cells #[.int .i64 0, .int .i64 0] 27)).setRow w7.heap.size #[Value.int .i64 dn, .int .i64 dd] := ⟨_, rfl⟩
            rw [← hwx] at hbx7 ⊢
            have HRx : Hid (Row wx w2.heap.size 27 [.int .i64 b0, .int .i64 b1]) := (HRq.out.old HB7.out).old hbx7
            have HBx : Hid (Below w2.heap.size w2 wx) := HBq.out.trans ((HB7.out.trans (hbx7.mono HB7.out.size)).mono HBq.out.size)
            obtain ⟨gx, hgx⟩ : ∃ gx, gx = w7.heap.size := ⟨_, rfl⟩
            have HGr : Hid (Row wx gx 27 [.int .i64 dn, .int .i64 dd]) := by rw [hwx, hgx]; exact (Row.new w7 27 [.int .i64 0, .int .i64 0]).setRow [.int .i64 dn, .int .i64 dd]
            have hne : w2.heap.size < gx := by have h1 := HRq.out.lt; have h2 := HB7.out.size; omega
            rw [← hgx]
            have r0 := HGr.out.cell 0; have r1 := HGr.out.cell 1; have p0 := HRx.out.cell 0; have p1 := HRx.out.cell 1
            simp only [List.getElem?_cons_succ, List.getElem?_cons_zero] at r0 r1 p0 p1
            have Hne := Lib.hid hne
            clear hbx7 hwx hgx hne HRq HBq HB7
            by_cases hz : b1 = 0
            · subst hz
              have Hst : Hid (rfGo X Y least k0 (s + 1) (dn, dd, s) = AL) := by unfold Hid; rw [Hgl.out, if_pos (Or.inl rfl)]
              go_wp2
              have hgn : gx ≠ w2.heap.size := by have := Hne.out; omega
              have c0 : wx.cell? ⟨gx, 0, none⟩ = some (.int .i64 dn) := by rw [HGr.out.cell 0]; rfl
              have c1' : wx.cell? ⟨gx, 1, none⟩ = some (.int .i64 dd) := by rw [HGr.out.cell 1]; rfl
              refine wp_region_held_drew (S := fun w' => w'.cell? ⟨gx, 0, none⟩ = some (.int .i64 dn) ∧ w'.cell? ⟨gx, 1, none⟩ = some (.int .i64 dd)) (by kernel_rfl) ?_ (fun hHeld => ?_)
              · exact ⟨c0, c1'⟩
              refine wpAnyH_take (i := 0) (oi := ⟨some 92, _, _, _, _, _⟩) (v := ?_) rfl (by kernel_rfl) (by kernel_rfl) (by kernel_rfl) (fun _ _ _ h => h) (Or.inl ⟨by kernel_rfl, ?_⟩) hHeld ?_
              rotate_left
              · intro w1 hSw; (try dsimp only at hSw); go_simp <;> with_reducible rfl
              try simp only [Act.put, List.setIfInBounds_toArray, List.set_cons_zero, List.set_cons_succ]
              refine wpAnyH_take (i := 1) (oi := ⟨some 93, _, _, _, _, _⟩) (v := ?_) rfl (by kernel_rfl) (by kernel_rfl) (by kernel_rfl) (fun _ _ _ h => h) (Or.inl ⟨by kernel_rfl, ?_⟩) hHeld ?_
              rotate_left
              · intro w1 hSw; (try dsimp only at hSw); go_simp <;> with_reducible rfl
              try simp only [Act.put, List.setIfInBounds_toArray, List.set_cons_zero, List.set_cons_succ]
              refine wpAnyH_take (i := 2) (oi := ⟨some 13, _, _, _, _, _⟩) (v := ?_) rfl (by kernel_rfl) (by kernel_rfl) (by kernel_rfl) (fun _ _ _ h => h) (Or.inl ⟨by kernel_rfl, ?_⟩) hHeld ?_
              rotate_left
              · intro w1 hSw; (try dsimp only at hSw); go_simp <;> with_reducible rfl
              try simp only [Act.put, List.setIfInBounds_toArray, List.set_cons_zero, List.set_cons_succ]
              refine wpAnyH_take (i := 3) (oi := ⟨some 14, _, _, _, _, _⟩) (v := ?_) rfl (by kernel_rfl) (by kernel_rfl) (by kernel_rfl) (fun _ _ _ h => h) (Or.inl ⟨by kernel_rfl, ?_⟩) hHeld ?_
              rotate_left
              · intro w1 hSw; (try dsimp only at hSw); go_simp <;> with_reducible rfl
              try simp only [Act.put, List.setIfInBounds_toArray, List.set_cons_zero, List.set_cons_succ]
              refine wpAnyH_ready (rs := [4]) (by kernel_rfl) (by simp) ?_
              refine AllReadyH.cons rfl (fun K hK => ?_) AllReadyH.nil
              refine step_store_row rfl 27 _ _ rfl w2.heap.size [.int .i64 dn, .int .i64 dd] rfl rfl 27 _ HRx.out (by kernel_rfl) rfl (by simp [Value.oneCell']) ?_
              refine hK.out _ _ ?_ (fun hHeld => ?_)
              · exact ⟨(cell_far _ hgn).trans hHeld.1, (cell_far _ hgn).trans hHeld.2⟩
              clear hK K
              try simp only [Act.put, List.setIfInBounds_toArray, List.set_cons_zero, List.set_cons_succ]
              refine wpAnyH_done (by kernel_rfl) ?_ _
              go_wp2
              go_roundg k0
              case measure => omega
              case rel => exact ⟨s + 1, dn, dd, s, by go_num, rfl, (by rw [HDD.out]), by omega, by omega, HK1.out, Hst.out, (by have := Hdb.out; show _ ∧ _ ∧ _ ∧ _; omega), Row.setRow (w := wx.drew) HRx.out _, Below.setRow HBx.out.drew (Nat.le_refl _) _⟩
            · have hz1 : (b1 != 0) = true := by simpa using hz
              have HZ := Lib.hid hz
              have hmul : (dn * b1).natAbs ≤ 4611686018427387904 ∧ (b0 * dd).natAbs ≤ 4611686018427387904 := by
                have h1 := Hdb.out; have h2 := Hb.out
                have m1 : dn * b1 ≤ 536870912 * 4096 := Int.mul_le_mul h1.1.2 h2.2.2.2 h2.2.2.1 (by decide)
                have m2 : b0 * dd ≤ 536870912 * 4096 := Int.mul_le_mul h2.2.1 h1.2.2 (by omega) (by decide)
                have m3 : 0 ≤ dn * b1 := Int.mul_nonneg h1.1.1 h2.2.2.1
                have m4 : 0 ≤ b0 * dd := Int.mul_nonneg h2.1 (by omega)
                omega
              obtain ⟨r, hr9⟩ : ∃ r : Int, r = if dn * b1 < b0 * dd then -1 else if dn * b1 > b0 * dd then 1 else 0 := ⟨_, rfl⟩
              have HCM : Hid (∀ W : World, Calls Tryz.prog 68 #[.agg #[.int .i64 dn, .int .i64 dd], .agg #[.int .i64 b0, .int .i64 b1]] W fun e w' => e = .returned (.int .i64 r) ∧ Below W.heap.size W w') := fun W => by
                rw [hr9]; exact compare_any dn dd b0 b1 W hmul.1 hmul.2
              have hrl : r < 0 ↔ dn * b1 < b0 * dd := by
                by_cases hq : dn * b1 < b0 * dd
                · rw [if_pos hq] at hr9; exact ⟨fun _ => hq, fun _ => by omega⟩
                · rw [if_neg hq] at hr9; exact ⟨fun h => by split at hr9 <;> omega, fun h => absurd h hq⟩
              have Hst0 : Hid (rfGo X Y least k0 (s + 1) (if r < 0 then (dn, dd, s) else (b0, b1, b2)) = AL) := by
                unfold Hid; rw [Hgl.out]
                by_cases hq : dn * b1 < b0 * dd
                · rw [if_pos (hrl.2 hq), if_pos (Or.inr hq)]
                · rw [if_neg (fun h => hq (hrl.1 h)), if_neg (fun h => h.elim hz hq)]
              clear hz hmul hr9 hrl
              by_cases hq : r < 0
              · have Hst : Hid (rfGo X Y least k0 (s + 1) (dn, dd, s) = AL) := by have h := Hst0.out; rw [if_pos hq] at h; exact h
                go_upto_region 16 with (go_at_call 68; refine (HCM.out _).mono ?_; rintro e w8 ⟨rfl, hb8⟩; have HB8 := Lib.hid hb8; clear hb8)
                have HRz := Lib.hid (HRx.out.old HB8.out)
                have HGz := Lib.hid (HGr.out.old HB8.out)
                have HBz := Lib.hid (HBx.out.trans (HB8.out.mono HBx.out.size))
                have hgn : gx ≠ w2.heap.size := by have := Hne.out; omega
                have c0 : w8.cell? ⟨gx, 0, none⟩ = some (.int .i64 dn) := by rw [HGz.out.cell 0]; rfl
                have c1' : w8.cell? ⟨gx, 1, none⟩ = some (.int .i64 dd) := by rw [HGz.out.cell 1]; rfl
                refine wp_region_held_drew (S := fun w' => w'.cell? ⟨gx, 0, none⟩ = some (.int .i64 dn) ∧ w'.cell? ⟨gx, 1, none⟩ = some (.int .i64 dd)) (by kernel_rfl) ?_ (fun hHeld => ?_)
                · exact ⟨c0, c1'⟩
                refine wpAnyH_take (i := 0) (oi := ⟨some 92, _, _, _, _, _⟩) (v := ?_) rfl (by kernel_rfl) (by kernel_rfl) (by kernel_rfl) (fun _ _ _ h => h) (Or.inl ⟨by kernel_rfl, ?_⟩) hHeld ?_
                rotate_left
                · intro w1 hSw; (try dsimp only at hSw); go_simp <;> with_reducible rfl
                try simp only [Act.put, List.setIfInBounds_toArray, List.set_cons_zero, List.set_cons_succ]
                refine wpAnyH_take (i := 1) (oi := ⟨some 93, _, _, _, _, _⟩) (v := ?_) rfl (by kernel_rfl) (by kernel_rfl) (by kernel_rfl) (fun _ _ _ h => h) (Or.inl ⟨by kernel_rfl, ?_⟩) hHeld ?_
                rotate_left
                · intro w1 hSw; (try dsimp only at hSw); go_simp <;> with_reducible rfl
                try simp only [Act.put, List.setIfInBounds_toArray, List.set_cons_zero, List.set_cons_succ]
                refine wpAnyH_take (i := 2) (oi := ⟨some 13, _, _, _, _, _⟩) (v := ?_) rfl (by kernel_rfl) (by kernel_rfl) (by kernel_rfl) (fun _ _ _ h => h) (Or.inl ⟨by kernel_rfl, ?_⟩) hHeld ?_
                rotate_left
                · intro w1 hSw; (try dsimp only at hSw); go_simp <;> with_reducible rfl
                try simp only [Act.put, List.setIfInBounds_toArray, List.set_cons_zero, List.set_cons_succ]
                refine wpAnyH_take (i := 3) (oi := ⟨some 14, _, _, _, _, _⟩) (v := ?_) rfl (by kernel_rfl) (by kernel_rfl) (by kernel_rfl) (fun _ _ _ h => h) (Or.inl ⟨by kernel_rfl, ?_⟩) hHeld ?_
                rotate_left
                · intro w1 hSw; (try dsimp only at hSw); go_simp <;> with_reducible rfl
                try simp only [Act.put, List.setIfInBounds_toArray, List.set_cons_zero, List.set_cons_succ]
                refine wpAnyH_ready (rs := [4]) (by kernel_rfl) (by simp) ?_
                refine AllReadyH.cons rfl (fun K hK => ?_) AllReadyH.nil
                refine step_store_row rfl 27 _ _ rfl w2.heap.size [.int .i64 dn, .int .i64 dd] rfl rfl 27 _ HRz.out (by kernel_rfl) rfl (by simp [Value.oneCell']) ?_
                refine hK.out _ _ ?_ (fun hHeld => ?_)
                · exact ⟨(cell_far _ hgn).trans hHeld.1, (cell_far _ hgn).trans hHeld.2⟩
                clear hK K
                try simp only [Act.put, List.setIfInBounds_toArray, List.set_cons_zero, List.set_cons_succ]
                refine wpAnyH_done (by kernel_rfl) ?_ _
                go_wp2
                go_roundg k0
                case measure => omega
                case rel => exact ⟨s + 1, dn, dd, s, by go_num, rfl, (by rw [HDD.out]), by omega, by omega, HK1.out, Hst.out, (by have := Hdb.out; show _ ∧ _ ∧ _ ∧ _; omega), Row.setRow (w := w8.drew) HRz.out _, Below.setRow HBz.out.drew (Nat.le_refl _) _⟩
              · have Hst : Hid (rfGo X Y least k0 (s + 1) (b0, b1, b2) = AL) := by have h := Hst0.out; rw [if_neg hq] at h; exact h
                go_wp2_with (go_at_call 68; refine (HCM.out _).mono ?_; rintro e w8 ⟨rfl, hb8⟩; have HB8 := Lib.hid hb8; clear hb8)
                go_roundg k0
                case measure => omega
                case rel => exact ⟨s + 1, b0, b1, b2, by go_num, rfl, (by rw [hz1]), by omega, by omega, HK1.out, Hst.out, Hb.out, HRx.out.old HB8.out, HBx.out.trans (HB8.out.mono HBx.out.size)⟩
    · have hg0 : gk = 0 := by omega
      have HFIN : Hid ((b0, b1, b2) = AL) := by unfold Hid; rw [← HG.out, hg0]; rfl
      clear hg hg0
      have HR8 := Lib.hid (HR2.out.old HBw.out)
      have hBw : Hid (Below w.heap.size w wr) := HB2.out.trans (HBw.out.mono HB2.out.size)
      have z0 := HR8.out.cell 0; have z1 := HR8.out.cell 1; have q0 := HRb.out.cell 0; have q1 := HRb.out.cell 1
      simp only [List.getElem?_cons_succ, List.getElem?_cons_zero] at z0 z1 q0 q1
      have f0 := HR8.out.free 0; have f1 := HR8.out.free 1
      by_cases hz : b1 = 0
      · subst hz
        go_wp2
        try rw [Exit.noGoto_ret]
        have hrow : Row ((wr.setCell ⟨w.heap.size, 0, none⟩ (.int .i64 0)).setCell ⟨w.heap.size, 1, none⟩ (.int .i64 0)) w.heap.size 27 [.int .i64 0, .int .i64 0] := (HR8.out.set 0 _).set 1 _
        refine bodyPost_ret (results_tct rfl _ _ w.heap.size 27 #[.int .i64 0, .int .i64 0] (0, 0) _ rfl hrow Tryz.underlying27 rfl (by kernel_rfl)) rfl ⟨?_, ((hBw.out.setCell (Nat.le_refl _) _).setCell (Nat.le_refl _) _)⟩
        rw [← HFIN.out, alRes, if_pos rfl]
        exact rfl
      · have hz1 : (b1 != 0) = true := by simpa using hz
        have hdd1 : (b1 == 0) = false := by simpa using hz
        clear hz
        go_wp2
        have hgn : w2.heap.size ≠ w.heap.size := by have := HR2.out.lt; omega
        refine wp_region_held_drew (S := fun w' => w'.cell? ⟨w2.heap.size, 0, none⟩ = some (.int .i64 b0) ∧ w'.cell? ⟨w2.heap.size, 1, none⟩ = some (.int .i64 b1)) (by kernel_rfl) ?_ (fun hHeld => ?_)
        · exact ⟨q0, q1⟩
        refine wpAnyH_take (i := 0) (oi := ⟨some 97, _, _, _, _, _⟩) (v := ?_) rfl (by kernel_rfl) (by kernel_rfl) (by kernel_rfl) (fun _ _ _ h => h) (Or.inl ⟨by kernel_rfl, ?_⟩) hHeld ?_
        rotate_left
        · intro w1 hSw; (try dsimp only at hSw); go_simp <;> with_reducible rfl
        try simp only [Act.put, List.setIfInBounds_toArray, List.set_cons_zero, List.set_cons_succ]
        refine wpAnyH_take (i := 1) (oi := ⟨some 98, _, _, _, _, _⟩) (v := ?_) rfl (by kernel_rfl) (by kernel_rfl) (by kernel_rfl) (fun _ _ _ h => h) (Or.inl ⟨by kernel_rfl, ?_⟩) hHeld ?_
        rotate_left
        · intro w1 hSw; (try dsimp only at hSw); go_simp <;> with_reducible rfl
        try simp only [Act.put, List.setIfInBounds_toArray, List.set_cons_zero, List.set_cons_succ]
        refine wpAnyH_take (i := 2) (oi := ⟨some 8, _, _, _, _, _⟩) (v := ?_) rfl (by kernel_rfl) (by kernel_rfl) (by kernel_rfl) (fun _ _ _ h => h) (Or.inl ⟨by kernel_rfl, ?_⟩) hHeld ?_
        rotate_left
        · intro w1 hSw; (try dsimp only at hSw); go_simp <;> with_reducible rfl
        try simp only [Act.put, List.setIfInBounds_toArray, List.set_cons_zero, List.set_cons_succ]
        refine wpAnyH_ready (rs := [3]) (by kernel_rfl) (by simp) ?_
        refine AllReadyH.cons rfl (fun K hK => ?_) AllReadyH.nil
        refine step_store_row rfl 27 _ _ rfl w.heap.size [.int .i64 b0, .int .i64 b1] rfl rfl 27 _ HR8.out (by kernel_rfl) rfl (by simp [Value.oneCell']) ?_
        refine hK.out _ _ ?_ (fun hHeld => ?_)
        · exact ⟨(cell_far _ hgn).trans hHeld.1, (cell_far _ hgn).trans hHeld.2⟩
        clear hK K
        try simp only [Act.put, List.setIfInBounds_toArray, List.set_cons_zero, List.set_cons_succ]
        refine wpAnyH_take (i := 4) (oi := ⟨some 10, _, _, _, _, _⟩) (v := ?_) rfl (by kernel_rfl) (by kernel_rfl) (by kernel_rfl) (fun _ _ _ h => h) (Or.inl ⟨by kernel_rfl, ?_⟩) hHeld ?_
        rotate_left
        · intro w1 hSw; (try dsimp only at hSw); go_simp <;> with_reducible rfl
        try simp only [Act.put, List.setIfInBounds_toArray, List.set_cons_zero, List.set_cons_succ]
        refine wpAnyH_done (by kernel_rfl) ?_ _
        go_wp2
        try rw [Exit.noGoto_ret]
        have hrow : Row (wr.drew.setRow w.heap.size [Value.int .i64 b0, .int .i64 b1].toArray) w.heap.size 27 [.int .i64 b0, .int .i64 b1] := Row.setRow (w := wr.drew) HR8.out _
        refine bodyPost_ret (results_tct rfl _ _ w.heap.size 27 #[.int .i64 b0, .int .i64 b1] (0, 0) _ rfl hrow Tryz.underlying27 rfl (by kernel_rfl)) rfl ⟨?_, Below.setRow hBw.out.drew (Nat.le_refl _) _⟩
        rw [← HFIN.out, alRes, if_neg (show ¬ (b0, b1, b2).2.1 = 0 from by simpa using hdd1)]
        exact rfl
end Go.Proofs.YtdglifjhkjdogaaGreatDoor
