import Derived.Test.YtjdniebjhilooaaGreatDoorM04
import Derived.Test.YtjdniebjhilooaaGreatDoorM12
import Derived.IntWalk
import Derived.Deep.DeepCutAuto
import Derived.Deep.LoopGhost
import Derived.Outline
namespace Go.Proofs.YtjdniebjhilooaaGreatDoor
set_option linter.all false
open Go.RowKit
set_option maxRecDepth 100000 in
set_option maxHeartbeats 400000 in
theorem ratio_any (a b : Int) (w : World) (ha : Bd a) (hb : 0 < b ∧ b ≤ 9223372036854775807) : Calls Tryz.prog 137 #[.int .i64 a, .int .i64 b] w fun e w' => e = .returned (.agg #[.int .i64 (a.tdiv (gcdI a b)), .int .i64 (b / gcdI a b)]) ∧ Below w.heap.size w w' := by
 have hb2 : Bd b := by unfold Bd; omega
 have Ha := Lib.hid ha; have Hb := Lib.hid hb2
 have hg0 : 0 < gcdI a b := by
  unfold gcdI
  have := Int.gcd_pos_of_ne_zero_right a (b := b) (by omega)
  omega
 obtain ⟨gb, hgb⟩ : ∃ gb, gb = gcdI a b := ⟨_, rfl⟩
 rw [← hgb] at hg0
 have Hgb := Lib.hid hgb
 have hbd : Bd a := Ha.out
 unfold Bd at hbd
 have u1 : -9223372036854775807 ≤ a.tdiv gb ∧ a.tdiv gb ≤ 9223372036854775807 := by
  have h1 : (a.tdiv gb).natAbs ≤ a.natAbs := by rw [Int.natAbs_tdiv]; exact Nat.div_le_self _ _
  omega
 have u2 : 0 ≤ b / gb ∧ b / gb ≤ b := ⟨Int.ediv_nonneg (by omega) (by omega), Int.ediv_le_self _ (by omega)⟩
 have hbt : b.tdiv gb = b / gb := Int.tdiv_eq_ediv_of_nonneg (by omega)
 have e1 : IntKind.i64.wrap (a.tdiv gb) = a.tdiv gb := IntWalk.i64_in _ (by omega)
 have e2 : IntKind.i64.wrap (b / gb) = b / gb := IntWalk.i64_in _ (by omega)
 have e2' : IntKind.i64.wrap (b.tdiv gb) = b / gb := by rw [hbt]; exact e2
 have e5 : wrap64 (a.tdiv gb) = a.tdiv gb := by unfold wrap64; omega
 have e6 : wrap64 (b / gb) = b / gb := by unfold wrap64; omega
 have hne : ¬ gb = 0 := by omega
 have hne2 : (gb == 0) = false := by simpa using hne
 have hm1 : (if (1 : Int) < gb then gb else 1) = gb := by split <;> omega
 have hm2 : (if gb < (1 : Int) then 1 else gb) = gb := by split <;> omega
 have Hbt := Lib.hid hbt
 clear hgb ha hb2 hbd u1 u2 hbt
 go_enter Tryz.func137, Tryz.ntmps137
 go_upto_region 1 with fail
 refine genA w.heap.size 110 [.int .i64 0, .int .i64 0] (Row.new w 110 [.int .i64 0, .int .i64 0]) ((Below.refl w.heap.size w).alloc (Nat.le_refl _) _) ?_
 intro W R0 RB
 have HR := Lib.hid R0; have HRB := Lib.hid RB
 clear R0 RB
 go_wp2_with (go_at_call 156; refine (divisor_any a b _ Ha.out Hb.out).mono ?_; rintro e w1 ⟨rfl, q2, rfl⟩; rw [← Hgb.out])
 go_upto_region 2 with fail
 refine wp_region_held_drew (S := fun _ => True) (by kernel_rfl) ?_ (fun hHeld => ?_)
 · trivial
 refine wpAnyH_take (i := 0) (oi := ⟨some 10, _, _, _, _, _⟩) (v := ?_) rfl (by kernel_rfl) (by kernel_rfl) (by kernel_rfl) (fun _ _ _ h => h) (Or.inl ⟨by kernel_rfl, ?_⟩) hHeld ?_
 rotate_left
 · intro w1 hSw; (try dsimp only at hSw); go_simp <;> with_reducible rfl
 try simp only [Act.put, List.setIfInBounds_toArray, List.set_cons_zero, List.set_cons_succ]
 refine wpAnyH_take (i := 1) (oi := ⟨some 11, _, _, _, _, _⟩) (v := ?_) rfl (by kernel_rfl) (by kernel_rfl) (by kernel_rfl) (fun _ _ _ h => h) (Or.inl ⟨by kernel_rfl, ?_⟩) hHeld ?_
 rotate_left
 · intro w1 hSw; (try dsimp only at hSw); go_simp <;> with_reducible rfl
 try simp only [Act.put, List.setIfInBounds_toArray, List.set_cons_zero, List.set_cons_succ]
 refine wpAnyH_take (i := 2) (oi := ⟨some 12, _, _, _, _, _⟩) (v := ?_) rfl (by kernel_rfl) (by kernel_rfl) (by kernel_rfl) (fun _ _ _ h => h) (Or.inl ⟨by kernel_rfl, ?_⟩) hHeld ?_
 rotate_left
 · intro w1 hSw; (try dsimp only at hSw); go_simp <;> with_reducible rfl
 try simp only [Act.put, List.setIfInBounds_toArray, List.set_cons_zero, List.set_cons_succ]
 refine wpAnyH_take (i := 3) (oi := ⟨some 13, _, _, _, _, _⟩) (v := ?_) rfl (by kernel_rfl) (by kernel_rfl) (by kernel_rfl) (fun _ _ _ h => h) (Or.inl ⟨by kernel_rfl, ?_⟩) hHeld ?_
 rotate_left
 · intro w1 hSw; (try dsimp only at hSw); go_simp <;> with_reducible rfl
 try simp only [Act.put, List.setIfInBounds_toArray, List.set_cons_zero, List.set_cons_succ]
 refine wpAnyH_take (i := 4) (oi := ⟨some 14, _, _, _, _, _⟩) (v := ?_) rfl (by kernel_rfl) (by kernel_rfl) (by kernel_rfl) (fun _ _ _ h => h) (Or.inl ⟨by kernel_rfl, ?_⟩) hHeld ?_
 rotate_left
 · intro w1 hSw; (try dsimp only at hSw); go_simp <;> with_reducible rfl
 try simp only [Act.put, List.setIfInBounds_toArray, List.set_cons_zero, List.set_cons_succ]
 refine wpAnyH_take (i := 5) (oi := ⟨some 15, _, _, _, _, _⟩) (v := ?_) rfl (by kernel_rfl) (by kernel_rfl) (by kernel_rfl) (fun _ _ _ h => h) (Or.inl ⟨by kernel_rfl, ?_⟩) hHeld ?_
 rotate_left
 · intro w1 hSw; (try dsimp only at hSw); go_simp <;> with_reducible rfl
 try simp only [Act.put, List.setIfInBounds_toArray, List.set_cons_zero, List.set_cons_succ]
 refine wpAnyH_take (i := 6) (oi := ⟨some 16, _, _, _, _, _⟩) (v := ?_) rfl (by kernel_rfl) (by kernel_rfl) (by kernel_rfl) (fun _ _ _ h => h) (Or.inl ⟨by kernel_rfl, ?_⟩) hHeld ?_
 rotate_left
 · intro w1 hSw; (try dsimp only at hSw); go_simp <;> with_reducible rfl
 try simp only [Act.put, List.setIfInBounds_toArray, List.set_cons_zero, List.set_cons_succ]
 refine wpAnyH_ready (rs := [7]) (by kernel_rfl) (by simp) ?_
 refine AllReadyH.cons rfl (fun K hK => ?_) AllReadyH.nil
 refine step_store_row rfl 110 _ _ rfl w.heap.size [.int .i64 (a.tdiv gb), .int .i64 (b / gb)] rfl rfl 110 [.int .i64 0, .int .i64 0] HR.out (by kernel_rfl) rfl (by simp [Value.oneCell']) ?_
 refine hK.out _ _ ?_ (fun hHeld => ?_)
 · trivial
 clear hK K
 try simp only [Act.put, List.setIfInBounds_toArray, List.set_cons_zero, List.set_cons_succ]
 refine wpAnyH_done (by kernel_rfl) ?_ _
 go_wp2
 have hrow : Row (((W.drewN q2).drew).setRow w.heap.size [Value.int .i64 (a.tdiv gb), .int .i64 (b / gb)].toArray) w.heap.size 110 [.int .i64 (a.tdiv gb), .int .i64 (b / gb)] := Row.setRow (w := (W.drewN q2).drew) HR.out _
 refine bodyPost_ret (results_rowA rfl _ _ w.heap.size 110 _ (0, 0) _ rfl hrow Tryz.underlying110 rfl (by kernel_rfl)) rfl ⟨by rw [← Hgb.out], ?_⟩
 have hb0 := HRB.out
 exact Below.setRow (w := (W.drewN q2).drew) ⟨hb0.os, hb0.tape, hb0.output, hb0.size, hb0.block⟩ (Nat.le_refl _) _
end Go.Proofs.YtjdniebjhilooaaGreatDoor
