import Derived.Test.YtdglifjhkjdogaaGreatDoorM08
import Derived.Test.YtdglifjhkjdogaaGreatDoorM23
/- Contracts: the reference's integers of samples, quotients in lowest terms, and their order. -/
namespace Go.Proofs.YtdglifjhkjdogaaGreatDoor
set_option linter.all false
open Go.RowKit Go.Fl
set_option linter.unusedVariables false
set_option linter.unusedSimpArgs false

theorem intsMap_snoc (l : List Nat) (k : Nat) (hk : k < l.length) : ints ((l.map unitI).take (k + 1)) = ints ((l.map unitI).take k) ++ [.int .i64 (unitI l[k])] := by
  rw [List.take_succ_eq_append_getElem (by simpa using hk)]; simp [ints]
set_option maxRecDepth 100000 in
set_option maxHeartbeats 1000000 in
theorem integers_any (A : Option Addr) (n c : Nat) (l : List Nat) (w : World) (hA : Rd w A (flts l)) (hn : n = l.length) (hm : l.length ≤ 1000000) (hs : ∀ x ∈ l, sampI x = 0) :
    Calls Tryz.prog 66 #[.slice A n c] w fun e w' => ∃ v, e = .returned v ∧ w'.ownsRow w.heap.size 3 1 v l.length (ints (l.map unitI)) ∧ Below w.heap.size w w' := by
  subst hn
  have HB0 := Lib.hid hs
  clear hs
  obtain ⟨i0, hi, hz0, hz1, hz2⟩ := info_parts info3
  go_enter Tryz.func66, Tryz.ntmps66
  go_wp2
  go_loopw [3, 4] (fun u i wr => ∃ k : Nat, k ≤ l.length ∧ i = .int .i64 k ∧ wr.ownsRow w.heap.size 3 1 u k (ints ((l.map unitI).take k)) ∧ Below w.heap.size w wr) (fun _ i _ => l.length - (intOf i).toNat)
  case atStart => exact ⟨0, Nat.zero_le _, rfl, World.ownsRow_nil _ _ _ _, Below.refl _ _⟩
  case round =>
    obtain ⟨k, hk, rfl, hown, hb⟩ := hrel
    have hsz := hb.size
    by_cases hlt : k < l.length
    · obtain ⟨b, off, rfl, hc⟩ := Rd.flt (hA.below hb) hlt
      have hx := Lib.hid (HB0.out l[k] (List.getElem_mem hlt))
      have hu := Lib.hid (intsMap_snoc l k hlt)
      go_wp2_with (first | (go_at_call 39; refine (sixteenths_ok _ _ hx.out).mono ?_; rintro e w1 ⟨rfl, rfl⟩) | (at_builtin; refine wpList_append_own _ rfl _ _ 35 rfl w.heap.size 3 i0 (.int .i64 0) 1 8 Tryz.underlying35 hi hz0 hz1 hz2 rfl (by decide) _ _ _ rfl (hown.alloc _) ⟨wr.heap.size, 0, none⟩ 1 1 [.int .i64 (unitI l[k])] rfl rfl (news1 _ _ _ _ rfl) ?c2 ?c3 ?c4 ?c5 ?_))
      case c2 => simp [Value.oneCell']
      case c3 => unfold maxLen; omega
      case c4 => omega
      case c5 => simp; omega
      intro v' w1 hown' hgrow _
      have hb1 := Lib.hid (Below.app hb (by omega) hown hgrow)
      have ho1 := Lib.hid hown'
      clear hown' hgrow hown hb
      go_wp2
      go_roundw
      case rel => exact ⟨k + 1, by omega, by go_num, by rw [hu.out]; exact ho1.out, hb1.out⟩
      case measure => simp [intOf]; omega
    · obtain rfl : k = l.length := by omega
      go_wp2
      go_ret
      exact ⟨_, rfl, by rw [List.take_of_length_le (by simp)] at hown; exact hown, hb⟩

set_option maxRecDepth 100000 in
set_option maxHeartbeats 1000000 in
theorem compare_any (a b c d : Int) (w : World) (h1 : (a * d).natAbs ≤ 4611686018427387904) (h2 : (c * b).natAbs ≤ 4611686018427387904) : Calls Tryz.prog 68 #[.agg #[.int .i64 a, .int .i64 b], .agg #[.int .i64 c, .int .i64 d]] w
    fun e w' => e = .returned (.int .i64 (if a * d < c * b then -1 else if a * d > c * b then 1 else 0)) ∧ Below w.heap.size w w' := by
  obtain ⟨x, hx⟩ : ∃ x, x = a * d := ⟨_, rfl⟩
  obtain ⟨y, hy⟩ : ∃ y, y = c * b := ⟨_, rfl⟩
  have ex : IntKind.i64.wrap (a * d) = x := by rw [← hx]; exact IntWalk.i64_in _ (by omega)
  have ey : IntKind.i64.wrap (c * b) = y := by rw [← hy]; exact IntWalk.i64_in _ (by omega)
  rw [← hx, ← hy]
  clear hx hy h1 h2
  obtain ⟨r, hr⟩ : ∃ r : Int, r = if x < y then -1 else if x > y then 1 else 0 := ⟨_, rfl⟩
  rw [← hr]
  have HR := Lib.hid hr
  clear hr
  have hb0 := ((Below.refl w.heap.size w).alloc (Nat.le_refl _) (.cells #[.int .i64 a, .int .i64 b] 27)).alloc (by simp) (.cells #[.int .i64 c, .int .i64 d] 27)
  go_enter Tryz.func68, Tryz.ntmps68
  have R0 := Lib.hid ((Row.new w 27 [.int .i64 a, .int .i64 b]).alloc (.cells #[.int .i64 c, .int .i64 d] 27))
  have R1 := Lib.hid (Row.new (w.alloc (.cells #[.int .i64 a, .int .i64 b] 27)) 27 [.int .i64 c, .int .i64 d])
  rw [World.size_alloc] at R1
  go_upto_region 1 with fail
  refine wp_region_held_drew (S := fun w' => w'.cell? ⟨w.heap.size, 0, none⟩ = some (.int .i64 a) ∧ w'.cell? ⟨w.heap.size, 1, none⟩ = some (.int .i64 b) ∧ w'.cell? ⟨w.heap.size + 1, 0, none⟩ = some (.int .i64 c) ∧ w'.cell? ⟨w.heap.size + 1, 1, none⟩ = some (.int .i64 d)) (by kernel_rfl) ?_ (fun hHeld => ?_)
  · exact ⟨R0.out.cell 0, R0.out.cell 1, R1.out.cell 0, R1.out.cell 1⟩
  refine wpAnyH_take (i := 0) (oi := ⟨some 7, _, _, _, _, _⟩) (v := ?_) rfl (by kernel_rfl) (by kernel_rfl) (by kernel_rfl) (fun _ _ _ h => h) (Or.inl ⟨by kernel_rfl, ?_⟩) hHeld ?_
  rotate_left
  · intro w1 hSw; (try dsimp only at hSw); go_simp <;> with_reducible rfl
  try simp only [Act.put, List.setIfInBounds_toArray, List.set_cons_zero, List.set_cons_succ]
  refine wpAnyH_take (i := 1) (oi := ⟨some 8, _, _, _, _, _⟩) (v := ?_) rfl (by kernel_rfl) (by kernel_rfl) (by kernel_rfl) (fun _ _ _ h => h) (Or.inl ⟨by kernel_rfl, ?_⟩) hHeld ?_
  rotate_left
  · intro w1 hSw; (try dsimp only at hSw); go_simp <;> with_reducible rfl
  try simp only [Act.put, List.setIfInBounds_toArray, List.set_cons_zero, List.set_cons_succ]
  refine wpAnyH_take (i := 2) (oi := ⟨some 9, _, _, _, _, _⟩) (v := ?_) rfl (by kernel_rfl) (by kernel_rfl) (by kernel_rfl) (fun _ _ _ h => h) (Or.inl ⟨by kernel_rfl, ?_⟩) hHeld ?_
  rotate_left
  · intro w1 hSw; (try dsimp only at hSw); go_simp <;> with_reducible rfl
  try simp only [Act.put, List.setIfInBounds_toArray, List.set_cons_zero, List.set_cons_succ]
  refine wpAnyH_take (i := 3) (oi := ⟨some 10, _, _, _, _, _⟩) (v := ?_) rfl (by kernel_rfl) (by kernel_rfl) (by kernel_rfl) (fun _ _ _ h => h) (Or.inl ⟨by kernel_rfl, ?_⟩) hHeld ?_
  rotate_left
  · intro w1 hSw; (try dsimp only at hSw); go_simp <;> with_reducible rfl
  try simp only [Act.put, List.setIfInBounds_toArray, List.set_cons_zero, List.set_cons_succ]
  refine wpAnyH_take (i := 4) (oi := ⟨some 11, _, _, _, _, _⟩) (v := ?_) rfl (by kernel_rfl) (by kernel_rfl) (by kernel_rfl) (fun _ _ _ h => h) (Or.inl ⟨by kernel_rfl, ?_⟩) hHeld ?_
  rotate_left
  · intro w1 hSw; (try dsimp only at hSw); go_simp <;> with_reducible rfl
  try simp only [Act.put, List.setIfInBounds_toArray, List.set_cons_zero, List.set_cons_succ]
  refine wpAnyH_take (i := 5) (oi := ⟨some 12, _, _, _, _, _⟩) (v := ?_) rfl (by kernel_rfl) (by kernel_rfl) (by kernel_rfl) (fun _ _ _ h => h) (Or.inl ⟨by kernel_rfl, ?_⟩) hHeld ?_
  rotate_left
  · intro w1 hSw; (try dsimp only at hSw); go_simp <;> with_reducible rfl
  try simp only [Act.put, List.setIfInBounds_toArray, List.set_cons_zero, List.set_cons_succ]
  refine wpAnyH_take (i := 6) (oi := ⟨some 13, _, _, _, _, _⟩) (v := ?_) rfl (by kernel_rfl) (by kernel_rfl) (by kernel_rfl) (fun _ _ _ h => h) (Or.inl ⟨by kernel_rfl, ?_⟩) hHeld ?_
  rotate_left
  · intro w1 hSw; (try dsimp only at hSw); go_simp <;> with_reducible rfl
  try simp only [Act.put, List.setIfInBounds_toArray, List.set_cons_zero, List.set_cons_succ]
  refine wpAnyH_take (i := 7) (oi := ⟨some 14, _, _, _, _, _⟩) (v := ?_) rfl (by kernel_rfl) (by kernel_rfl) (by kernel_rfl) (fun _ _ _ h => h) (Or.inl ⟨by kernel_rfl, ?_⟩) hHeld ?_
  rotate_left
  · intro w1 hSw; (try dsimp only at hSw); go_simp <;> with_reducible rfl
  try simp only [Act.put, List.setIfInBounds_toArray, List.set_cons_zero, List.set_cons_succ]
  refine wpAnyH_take (i := 8) (oi := ⟨some 15, _, _, _, _, _⟩) (v := ?_) rfl (by kernel_rfl) (by kernel_rfl) (by kernel_rfl) (fun _ _ _ h => h) (Or.inl ⟨by kernel_rfl, ?_⟩) hHeld ?_
  rotate_left
  · intro w1 hSw; (try dsimp only at hSw); go_simp <;> with_reducible rfl
  try simp only [Act.put, List.setIfInBounds_toArray, List.set_cons_zero, List.set_cons_succ]
  refine wpAnyH_take (i := 9) (oi := ⟨some 16, _, _, _, _, _⟩) (v := ?_) rfl (by kernel_rfl) (by kernel_rfl) (by kernel_rfl) (fun _ _ _ h => h) (Or.inl ⟨by kernel_rfl, ?_⟩) hHeld ?_
  rotate_left
  · intro w1 hSw; (try dsimp only at hSw); go_simp <;> with_reducible rfl
  try simp only [Act.put, List.setIfInBounds_toArray, List.set_cons_zero, List.set_cons_succ]
  refine wpAnyH_take (i := 10) (oi := ⟨some 5, _, _, _, _, _⟩) (v := ?_) rfl (by kernel_rfl) (by kernel_rfl) (by kernel_rfl) (fun _ _ _ h => h) (Or.inl ⟨by kernel_rfl, ?_⟩) hHeld ?_
  rotate_left
  · intro w1 hSw; (try dsimp only at hSw); go_simp <;> with_reducible rfl
  try simp only [Act.put, List.setIfInBounds_toArray, List.set_cons_zero, List.set_cons_succ]
  refine wpAnyH_take (i := 11) (oi := ⟨some 6, _, _, _, _, _⟩) (v := ?_) rfl (by kernel_rfl) (by kernel_rfl) (by kernel_rfl) (fun _ _ _ h => h) (Or.inl ⟨by kernel_rfl, ?_⟩) hHeld ?_
  rotate_left
  · intro w1 hSw; (try dsimp only at hSw); go_simp <;> with_reducible rfl
  try simp only [Act.put, List.setIfInBounds_toArray, List.set_cons_zero, List.set_cons_succ]
  refine wpAnyH_done (by kernel_rfl) ?_ _
  by_cases h1 : x < y
  · have h1d : decide (x < y) = true := by simpa using h1
    go_wp2
    go_ret
    exact ⟨ret_int (by rw [HR.out, if_pos h1]), hb0.drew⟩
  · by_cases h2 : x > y
    · have h2d : decide (y < x) = true := by simpa using h2
      go_wp2
      go_ret
      exact ⟨ret_int (by have h := HR.out; rw [if_neg (show ¬ x < y by omega), if_pos (show x > y by omega)] at h; exact h.symm), hb0.drew⟩
    · go_wp2
      go_ret
      exact ⟨ret_int (by have h := HR.out; rw [if_neg (show ¬ x < y by omega), if_neg (show ¬ x > y by omega)] at h; exact h.symm), hb0.drew⟩

set_option maxRecDepth 100000 in
set_option maxHeartbeats 1000000 in
theorem lowest_any (a b : Int) (w : World) (ha : Bd a) (hb : 0 < b ∧ b ≤ 9223372036854775807) : Calls Tryz.prog 67 #[.int .i64 a, .int .i64 b] w fun e w' => e = .returned (.agg #[.int .i64 (a.tdiv (gcdI a b)), .int .i64 (b / gcdI a b)]) ∧ Below w.heap.size w w' := by
  have hb2 : Bd b := by unfold Bd; omega
  have Ha := Lib.hid ha; have Hb := Lib.hid hb2
  have hg0 : 0 < gcdI a b := by
    unfold gcdI
    have := Int.gcd_pos_of_ne_zero_right a (b := b) (by omega)
    omega
  obtain ⟨gb, hgb⟩ : ∃ gb, gb = gcdI a b := ⟨_, rfl⟩
  rw [← hgb] at hg0 ⊢
  have Hgb := Lib.hid hgb
  have hbd : Bd a := Ha.out
  unfold Bd at hbd
  have u1 : -9223372036854775807 ≤ a.tdiv gb ∧ a.tdiv gb ≤ 9223372036854775807 := by
    have h1 : (a.tdiv gb).natAbs ≤ a.natAbs := by rw [Int.natAbs_tdiv]; exact Nat.div_le_self _ _
    omega
  have u2 : 0 ≤ b / gb ∧ b / gb ≤ b := ⟨Int.ediv_nonneg (by omega) (by omega), Int.ediv_le_self _ (by omega)⟩
  have hbt : b.tdiv gb = b / gb := Int.tdiv_eq_ediv_of_nonneg (by omega)
  have e1 : IntKind.i64.wrap (a.tdiv gb) = a.tdiv gb := IntWalk.i64_in _ (by omega)
  have e2 : IntKind.i64.wrap (b / gb) = b / gb := IntWalk.i64_in _ (by omega)
  have e2' : IntKind.i64.wrap (b.tdiv gb) = b / gb := by rw [hbt]; exact e2
  have e5 : wrap64 (a.tdiv gb) = a.tdiv gb := by unfold wrap64; omega
  have e6 : wrap64 (b / gb) = b / gb := by unfold wrap64; omega
  have hne : ¬ gb = 0 := by omega
  have hne2 : (gb == 0) = false := by simpa using hne
  have hbn : ¬ b < 0 := by omega
  have Hbt := Lib.hid hbt
  clear hgb ha hb2 hbd u1 u2 hbt
  go_enter Tryz.func67, Tryz.ntmps67
  go_upto_region 3 with fail
  refine genA w.heap.size 27 [.int .i64 0, .int .i64 0] (Row.new w 27 [.int .i64 0, .int .i64 0]) ((Below.refl w.heap.size w).alloc (Nat.le_refl _) _) ?_
  intro W R0 RB
  have HR := Lib.hid R0; have HRB := Lib.hid RB
  clear R0 RB
  go_wp2_with (go_at_call 129; refine (divisorR_any a b _ Ha.out Hb.out).mono ?_; rintro e w1 ⟨rfl, q2, rfl⟩; rw [← Hgb.out])
  go_upto_region 4 with fail
  refine wp_region_held_drew (S := fun _ => True) (by kernel_rfl) ?_ (fun hHeld => ?_)
  · trivial
  refine wpAnyH_take (i := 0) (oi := ⟨some 15, _, _, _, _, _⟩) (v := ?_) rfl (by kernel_rfl) (by kernel_rfl) (by kernel_rfl) (fun _ _ _ h => h) (Or.inl ⟨by kernel_rfl, ?_⟩) hHeld ?_
  rotate_left
  · intro w1 hSw; (try dsimp only at hSw); go_simp <;> with_reducible rfl
  try simp only [Act.put, List.setIfInBounds_toArray, List.set_cons_zero, List.set_cons_succ]
  refine wpAnyH_take (i := 1) (oi := ⟨some 16, _, _, _, _, _⟩) (v := ?_) rfl (by kernel_rfl) (by kernel_rfl) (by kernel_rfl) (fun _ _ _ h => h) (Or.inl ⟨by kernel_rfl, ?_⟩) hHeld ?_
  rotate_left
  · intro w1 hSw; (try dsimp only at hSw); go_simp <;> with_reducible rfl
  try simp only [Act.put, List.setIfInBounds_toArray, List.set_cons_zero, List.set_cons_succ]
  refine wpAnyH_take (i := 2) (oi := ⟨some 17, _, _, _, _, _⟩) (v := ?_) rfl (by kernel_rfl) (by kernel_rfl) (by kernel_rfl) (fun _ _ _ h => h) (Or.inl ⟨by kernel_rfl, ?_⟩) hHeld ?_
  rotate_left
  · intro w1 hSw; (try dsimp only at hSw); go_simp <;> with_reducible rfl
  try simp only [Act.put, List.setIfInBounds_toArray, List.set_cons_zero, List.set_cons_succ]
  refine wpAnyH_take (i := 3) (oi := ⟨some 18, _, _, _, _, _⟩) (v := ?_) rfl (by kernel_rfl) (by kernel_rfl) (by kernel_rfl) (fun _ _ _ h => h) (Or.inl ⟨by kernel_rfl, ?_⟩) hHeld ?_
  rotate_left
  · intro w1 hSw; (try dsimp only at hSw); go_simp <;> with_reducible rfl
  try simp only [Act.put, List.setIfInBounds_toArray, List.set_cons_zero, List.set_cons_succ]
  refine wpAnyH_take (i := 4) (oi := ⟨some 19, _, _, _, _, _⟩) (v := ?_) rfl (by kernel_rfl) (by kernel_rfl) (by kernel_rfl) (fun _ _ _ h => h) (Or.inl ⟨by kernel_rfl, ?_⟩) hHeld ?_
  rotate_left
  · intro w1 hSw; (try dsimp only at hSw); go_simp <;> with_reducible rfl
  try simp only [Act.put, List.setIfInBounds_toArray, List.set_cons_zero, List.set_cons_succ]
  refine wpAnyH_take (i := 5) (oi := ⟨some 20, _, _, _, _, _⟩) (v := ?_) rfl (by kernel_rfl) (by kernel_rfl) (by kernel_rfl) (fun _ _ _ h => h) (Or.inl ⟨by kernel_rfl, ?_⟩) hHeld ?_
  rotate_left
  · intro w1 hSw; (try dsimp only at hSw); go_simp <;> with_reducible rfl
  try simp only [Act.put, List.setIfInBounds_toArray, List.set_cons_zero, List.set_cons_succ]
  refine wpAnyH_take (i := 6) (oi := ⟨some 21, _, _, _, _, _⟩) (v := ?_) rfl (by kernel_rfl) (by kernel_rfl) (by kernel_rfl) (fun _ _ _ h => h) (Or.inl ⟨by kernel_rfl, ?_⟩) hHeld ?_
  rotate_left
  · intro w1 hSw; (try dsimp only at hSw); go_simp <;> with_reducible rfl
  try simp only [Act.put, List.setIfInBounds_toArray, List.set_cons_zero, List.set_cons_succ]
  refine wpAnyH_ready (rs := [7]) (by kernel_rfl) (by simp) ?_
  refine AllReadyH.cons rfl (fun K hK => ?_) AllReadyH.nil
  refine step_store_row rfl 27 _ _ rfl w.heap.size [.int .i64 (a.tdiv gb), .int .i64 (b / gb)] rfl rfl 27 [.int .i64 0, .int .i64 0] HR.out (by kernel_rfl) rfl (by simp [Value.oneCell']) ?_
  refine hK.out _ _ ?_ (fun hHeld => ?_)
  · trivial
  clear hK K
  try simp only [Act.put, List.setIfInBounds_toArray, List.set_cons_zero, List.set_cons_succ]
  refine wpAnyH_done (by kernel_rfl) ?_ _
  go_wp2
  have hrow : Row (((W.drewN q2).drew).setRow w.heap.size [Value.int .i64 (a.tdiv gb), .int .i64 (b / gb)].toArray) w.heap.size 27 [.int .i64 (a.tdiv gb), .int .i64 (b / gb)] := Row.setRow (w := (W.drewN q2).drew) HR.out _
  refine bodyPost_ret (results_rowA rfl _ _ w.heap.size 27 _ (0, 0) _ rfl hrow Tryz.underlying27 rfl (by kernel_rfl)) rfl ⟨rfl, ?_⟩
  have hb0 := HRB.out
  exact Below.setRow (w := (W.drewN q2).drew) ⟨hb0.os, hb0.tape, hb0.output, hb0.size, hb0.block⟩ (Nat.le_refl _) _
end Go.Proofs.YtdglifjhkjdogaaGreatDoor
