import Derived.Test.YtkfkmnfejeocpaaGreatDoorM16
import Derived.Test.YtkfkmnfejeocpaaGreatDoorM13
import Derived.Test.YtkfkmnfejeocpaaGreatDoorM03
import Derived.Test.YtkfkmnfejeocpaaGreatDoorM06
/- Contracts: the error of a recording by the reference. -/
namespace Go.Proofs.YtkfkmnfejeocpaaGreatDoor
set_option linter.all false
open Go.RowKit Go.Fl
set_option linter.unusedVariables false
set_option linter.unusedSimpArgs false

theorem genR {p : World → Prop} {w : World} (S : World → Prop) (h : S w) (hp : ∀ W, S W → p W) : p w := hp w h
end Go.Proofs.YtkfkmnfejeocpaaGreatDoor

/- Contracts: a panel by the reference, a square. -/
namespace Go.Proofs.YtkfkmnfejeocpaaGreatDoor
set_option linter.all false
open Go.RowKit Go.Fl
set_option linter.unusedVariables false
set_option linter.unusedSimpArgs false

set_option maxHeartbeats 400000 in
theorem square_any (a b : Int) (w : World) (ha : a.natAbs ≤ 65536) (hb : b.natAbs ≤ 65536) : Calls Tryz.prog 12 #[.agg #[.int .i64 a, .int .i64 b]] w fun e w' => e = .returned (.int .i64 (a * a + b * b)) ∧ Below w.heap.size w w' := by
  have h1 := sq_bd (x := a) (m := 65536) (by omega)
  have h2 := sq_bd (x := b) (m := 65536) (by omega)
  obtain ⟨p, hp⟩ : ∃ p, a * a = p := ⟨_, rfl⟩
  obtain ⟨q, hq⟩ : ∃ q, b * b = q := ⟨_, rfl⟩
  have hr := Row.new w 41 [.int .i64 a, .int .i64 b]
  have c0 := hr.cell 0
  have c1 := hr.cell 1
  simp only [List.getElem?_cons_succ, List.getElem?_cons_zero] at c0 c1
  rw [hp] at h1
  rw [hq] at h2
  have HP := Lib.hid hp; have HQ := Lib.hid hq
  have i1 : IntKind.i64.wrap (a * a) = p := by rw [hp]; exact IntWalk.i64_in _ (by omega)
  have i2 : IntKind.i64.wrap (b * b) = q := by rw [hq]; exact IntWalk.i64_in _ (by omega)
  clear hr hp hq
  go_enter Tryz.func12, Tryz.ntmps12
  go_wp2
  go_ret
  exact ⟨by rw [HP.out, HQ.out]; rfl, (Below.refl _ _).alloc (Nat.le_refl _) _⟩

set_option maxRecDepth 100000 in
set_option maxHeartbeats 1000000 in
theorem checkPanelR_ok (r0 i0 r1 i1 r2 i2 r3 i3 : Nat) (w : World) (h : ∀ p ∈ [(r0, i0), (r1, i1), (r2, i2), (r3, i3)], partI p.1 65536 = 0 ∧ partI p.2 65536 = 0) :
    Calls Tryz.prog 10 #[.agg #[.complex .f32 r0 i0, .complex .f32 r1 i1, .complex .f32 r2 i2, .complex .f32 r3 i3]] w fun e w' => e = .returned (.int .i64 0) ∧ Below w.heap.size w w' := by
  have HH := Lib.hid h
  have HR := Lib.hid (Row.new w 31 (cxs [(r0, i0), (r1, i1), (r2, i2), (r3, i3)]))
  have HB := Lib.hid ((Below.refl w.heap.size w).alloc (Nat.le_refl _) (.cells #[.complex .f32 r0 i0, .complex .f32 r1 i1, .complex .f32 r2 i2, .complex .f32 r3 i3] 31))
  clear h
  go_enter Tryz.func10, Tryz.ntmps10
  go_upto_region 1 with fail
  refine genR (fun V => Row V w.heap.size 31 (cxs [(r0, i0), (r1, i1), (r2, i2), (r3, i3)]) ∧ Below w.heap.size w V) ⟨HR.out, HB.out⟩ ?_
  clear HR HB
  rintro W1 ⟨h1, h2⟩
  have HR := Lib.hid h1; have HB := Lib.hid h2
  clear h1 h2
  go_wp2_with fail
  go_loopg [3, 4] 4 (fun g s3 s4 wr => ∃ k : Nat, k + g = 4 ∧ s4 = .int .i64 k ∧ s3 = .int .i64 0 ∧ Hid (Row wr w.heap.size 31 (cxs [(r0, i0), (r1, i1), (r2, i2), (r3, i3)])) ∧ Hid (Below w.heap.size w wr))
  case atStart => exact ⟨0, rfl, rfl, rfl, HR.out, HB.out⟩
  case round =>
    obtain ⟨k, hk, rfl, rfl, hr, hb⟩ := hrel
    by_cases hlt : k < 4
    · obtain ⟨r, i, hc, hpp⟩ : ∃ r i, (cxs [(r0, i0), (r1, i1), (r2, i2), (r3, i3)])[k]? = some (.complex .f32 r i) ∧ partI r 65536 = 0 ∧ partI i 65536 = 0 := by
        have hl : k < [(r0, i0), (r1, i1), (r2, i2), (r3, i3)].length := hlt
        refine ⟨[(r0, i0), (r1, i1), (r2, i2), (r3, i3)][k].1, [(r0, i0), (r1, i1), (r2, i2), (r3, i3)][k].2, ?_, HH.out _ (List.getElem_mem hl)⟩
        unfold cxs
        rw [List.getElem?_map, List.getElem?_eq_getElem hl]
        rfl
      have hcell : wr.cell? ⟨w.heap.size, k, none⟩ = some (.complex .f32 r i) := by rw [hr.out.cell]; exact hc
      have HP := Lib.hid hpp
      have hz0 : firstI [0, 0, 0] = 0 := rfl
      have hd4 : (k : Int) < 4 := by omega
      clear hpp hc
      go_upto_region 5 with fail
      go_cut [5, 6] from 9 to 21 (fun s5 s6 wx => s5 = .int .i64 0 ∧ s6 = .int .i64 0 ∧ Below wr.heap.size wr wx)
      case first =>
        refine wp_region_held_drew (S := fun V => V.cell? ⟨w.heap.size, k, none⟩ = some (.complex .f32 r i) ∧ Below wr.heap.size wr V) (by kernel_rfl) ?_ (fun hHeld => ?_)
        · exact ⟨hcell, (Below.refl _ _).drew⟩
        refine wpAnyH_take (i := 0) (oi := ⟨some 11, _, _, _, _, _⟩) (v := ?_) rfl (by kernel_rfl) (by kernel_rfl) (by kernel_rfl) (fun _ _ _ h => h) (Or.inl ⟨by kernel_rfl, ?_⟩) hHeld ?_
        rotate_left
        · intro w1 hSw; (try dsimp only at hSw); go_simp <;> with_reducible rfl
        try simp only [Act.put, List.setIfInBounds_toArray, List.set_cons_zero, List.set_cons_succ]
        refine wpAnyH_take (i := 1) (oi := ⟨some 12, _, _, _, _, _⟩) (v := ?_) rfl (by kernel_rfl) (by kernel_rfl) (by kernel_rfl) (fun _ _ _ h => h) (Or.inl ⟨by kernel_rfl, ?_⟩) hHeld ?_
        rotate_left
        · intro w1 hSw; (try dsimp only at hSw); go_simp <;> with_reducible rfl
        try simp only [Act.put, List.setIfInBounds_toArray, List.set_cons_zero, List.set_cons_succ]
        refine wpAnyH_take (i := 2) (oi := ⟨some 13, _, _, _, _, _⟩) (v := ?_) rfl (by kernel_rfl) (by kernel_rfl) (by kernel_rfl) (fun _ _ _ h => h) (Or.inl ⟨by kernel_rfl, ?_⟩) hHeld ?_
        rotate_left
        · intro w1 hSw; (try dsimp only at hSw); have hcc := hSw.1; go_simp <;> with_reducible rfl
        try simp only [Act.put, List.setIfInBounds_toArray, List.set_cons_zero, List.set_cons_succ]
        refine wpAnyH_take (i := 3) (oi := ⟨some 14, _, _, _, _, _⟩) (v := ?_) rfl (by kernel_rfl) (by kernel_rfl) (by kernel_rfl) (fun _ _ _ h => h) (Or.inl ⟨by kernel_rfl, ?_⟩) hHeld ?_
        rotate_left
        · intro w1 hSw; (try dsimp only at hSw); go_simp <;> with_reducible rfl
        try simp only [Act.put, List.setIfInBounds_toArray, List.set_cons_zero, List.set_cons_succ]
        refine wpAnyH_take (i := 5) (oi := ⟨some 16, _, _, _, _, _⟩) (v := ?_) rfl (by kernel_rfl) (by kernel_rfl) (by kernel_rfl) (fun _ _ _ h => h) (Or.inl ⟨by kernel_rfl, ?_⟩) hHeld ?_
        rotate_left
        · intro w1 hSw; (try dsimp only at hSw); go_simp <;> with_reducible rfl
        try simp only [Act.put, List.setIfInBounds_toArray, List.set_cons_zero, List.set_cons_succ]
        refine wpAnyH_take (i := 6) (oi := ⟨some 17, _, _, _, _, _⟩) (v := ?_) rfl (by kernel_rfl) (by kernel_rfl) (by kernel_rfl) (fun _ _ _ h => h) (Or.inl ⟨by kernel_rfl, ?_⟩) hHeld ?_
        rotate_left
        · intro w1 hSw; (try dsimp only at hSw); go_simp <;> with_reducible rfl
        try simp only [Act.put, List.setIfInBounds_toArray, List.set_cons_zero, List.set_cons_succ]
        refine wpAnyH_take (i := 7) (oi := ⟨some 18, _, _, _, _, _⟩) (v := ?_) rfl (by kernel_rfl) (by kernel_rfl) (by kernel_rfl) (fun _ _ _ h => h) (Or.inl ⟨by kernel_rfl, ?_⟩) hHeld ?_
        rotate_left
        · intro w1 hSw; (try dsimp only at hSw); have hcc := hSw.1; go_simp <;> with_reducible rfl
        try simp only [Act.put, List.setIfInBounds_toArray, List.set_cons_zero, List.set_cons_succ]
        refine wpAnyH_take (i := 8) (oi := ⟨some 19, _, _, _, _, _⟩) (v := ?_) rfl (by kernel_rfl) (by kernel_rfl) (by kernel_rfl) (fun _ _ _ h => h) (Or.inl ⟨by kernel_rfl, ?_⟩) hHeld ?_
        rotate_left
        · intro w1 hSw; (try dsimp only at hSw); go_simp <;> with_reducible rfl
        try simp only [Act.put, List.setIfInBounds_toArray, List.set_cons_zero, List.set_cons_succ]
        refine wpAnyH_ready (rs := [4]) (by kernel_rfl) (by simp) ?_
        refine AllReadyH.cons rfl (fun K hK => ?_) (AllReadyH.nil)
        go_simp
        go_at_call 44
        refine (checkPart_panel _ _).mono ?_
        rintro e w4 ⟨rfl, q4, rfl⟩
        first | rw [HP.out.1] | rw [HP.out.2]
        try go_simp
        refine hK.out _ _ ?_ (fun hHeld => ?_)
        · exact ⟨hHeld.1, by rw [← World.drewN_drewN]; exact below_drewN hHeld.2 q4⟩
        clear hK K
        try simp only [Act.put, List.setIfInBounds_toArray, List.set_cons_zero, List.set_cons_succ]
        refine wpAnyH_ready (rs := [9]) (by kernel_rfl) (by simp) ?_
        refine AllReadyH.cons rfl (fun K hK => ?_) (AllReadyH.nil)
        go_simp
        go_at_call 44
        refine (checkPart_panel _ _).mono ?_
        rintro e w9 ⟨rfl, q9, rfl⟩
        first | rw [HP.out.1] | rw [HP.out.2]
        try go_simp
        refine hK.out _ _ ?_ (fun hHeld => ?_)
        · exact ⟨hHeld.1, by rw [← World.drewN_drewN]; exact below_drewN hHeld.2 q9⟩
        clear hK K
        try simp only [Act.put, List.setIfInBounds_toArray, List.set_cons_zero, List.set_cons_succ]
        refine wpAnyH_take (i := 10) (oi := ⟨some 5, _, _, _, _, _⟩) (v := ?_) rfl (by kernel_rfl) (by kernel_rfl) (by kernel_rfl) (fun _ _ _ h => h) (Or.inl ⟨by kernel_rfl, ?_⟩) hHeld ?_
        rotate_left
        · intro w1 hSw; (try dsimp only at hSw); go_simp <;> with_reducible rfl
        try simp only [Act.put, List.setIfInBounds_toArray, List.set_cons_zero, List.set_cons_succ]
        refine wpAnyH_take (i := 11) (oi := ⟨some 6, _, _, _, _, _⟩) (v := ?_) rfl (by kernel_rfl) (by kernel_rfl) (by kernel_rfl) (fun _ _ _ h => h) (Or.inl ⟨by kernel_rfl, ?_⟩) hHeld ?_
        rotate_left
        · intro w1 hSw; (try dsimp only at hSw); go_simp <;> with_reducible rfl
        try simp only [Act.put, List.setIfInBounds_toArray, List.set_cons_zero, List.set_cons_succ]
        refine wpAnyH_done (by kernel_rfl) ?_ _
        go_wp2_with fail
        go_meet
        exact ⟨rfl, rfl, hHeld.2⟩
      case rest =>
      obtain ⟨rfl, rfl, hbx⟩ := hcut
      have HR2 := Lib.hid (hr.out.old hbx); have HB2 := Lib.hid (hb.out.trans (hbx.mono hb.out.size))
      clear hr hb hbx hcell HP
      go_wp2_with (go_at_call 45; refine (first_any _ _ _ [0, 0, 0] _ ?_ rfl (by simp)).mono ?_; exact Rd.new _ _ _ _ (by simp); rintro e w7 ⟨rfl, rfl⟩; rw [hz0])
      go_roundg (3 - k)
      case measure => omega
      case rel => exact ⟨k + 1, by omega, rfl, rfl, HR2.out.alloc _, HB2.out.alloc HB2.out.size _⟩
    · go_wp2_with fail
      go_ret
      exact ⟨rfl, hb.out⟩
end Go.Proofs.YtkfkmnfejeocpaaGreatDoor
