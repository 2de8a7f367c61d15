import Derived.Test.YtlflfieknibgmaaGreatDoorM13
import Derived.Test.YtlflfieknibgmaaGreatDoorM08
namespace Go.Proofs.YtlflfieknibgmaaGreatDoor
set_option linter.all false
open Go.RowKit Go.Fl
theorem iRI (k : Int) : Gs (iR k) (iI k) := by unfold Gs iR iI; constructor <;> (split <;> (first | decide | (split <;> decide)))
def resV (l : List Int) (e : Int) : List Value := if e = 0 then ints l else ints [0, 0, 0, 0, 0, 0]
theorem resV_six (a b c d x y e : Int) : ∃ r1 r2 r3 r4 r5 r6 : Int, resV [a, b, c, d, x, y] e = [.int .i64 r1, .int .i64 r2, .int .i64 r3, .int .i64 r4, .int .i64 r5, .int .i64 r6] := by
  unfold resV
  split
  · exact ⟨a, b, c, d, x, y, rfl⟩
  · exact ⟨0, 0, 0, 0, 0, 0, rfl⟩
theorem bigE_zero {e : Int} (h : bigE e = 0) : e = 0 := by
  unfold bigE at h
  split at h
  · cases h
  · exact h
theorem result_any (a b c d x y : Int) (w : World) : Calls Tryz.prog 42 #[.agg #[.int .i64 a, .int .i64 b, .int .i64 c, .int .i64 d, .int .i64 x, .int .i64 y]] w fun e w' => e = .returned (.tuple #[.agg (resV [a, b, c, d, x, y] (bigE (sigE a b c d x y))).toArray, .int .i64 (bigE (sigE a b c d x y))]) ∧ Below w.heap.size w w' := by
  by_cases h : bigE (sigE a b c d x y) = 0
  · have h0 := bigE_zero h
    rw [h, resV, if_pos rfl]
    exact result_ok a b c d x y w h0
  · rw [resV, if_neg h]
    exact result_bad a b c d x y _ w rfl h
theorem cell_farT {w : World} {g g' i : Nat} (cs : Array Value) (h : g ≠ g') : (w.setRow g' cs).cell? ⟨g, i, none⟩ = w.cell? ⟨g, i, none⟩ := by
  simp only [World.cell?, setRow_other w g' cs g h]
theorem tnSet {w : World} {g : Nat} (h : Tn w) (hg : 0 < g) (cs : Array Value) : Tn (w.setRow g cs) := fun j v hv => by
  have h1 := h j v hv
  rw [cell_farT cs (show 0 ≠ g by omega)]
  exact h1
set_option maxRecDepth 100000 in
set_option maxHeartbeats 1000000 in
theorem turned_ok (a b c d x y k : Int) (w : World) (hT : Tn w) (hE : firstI [sigE a b c d x y, whenI (rangeB k 0 3) 3] = 0) : Calls Tryz.prog 8 #[.agg #[.int .i64 a, .int .i64 b, .int .i64 c, .int .i64 d, .int .i64 x, .int .i64 y], .int .i64 k] w fun e w' => e = .returned (.tuple #[.agg #[.int .i64 (a * iR k - b * iI k), .int .i64 (a * iI k + b * iR k), .int .i64 (c * iR k - d * iI k), .int .i64 (c * iI k + d * iR k), .int .i64 (x * iR k - y * iI k), .int .i64 (x * iI k + y * iR k)], .int .i64 0]) ∧ Below w.heap.size w w' := by
  obtain ⟨hs, hk⟩ := fI2 hE
  have hg := sig_good hs
  have hk := whenZ (by decide) hk
  obtain ⟨E, hE0, hE⟩ : ∃ E : Int, E = 0 ∧ firstI [sigE a b c d x y, whenI (rangeB k 0 3) 3] = E := ⟨0, rfl, hE⟩
  obtain ⟨E1, hE1⟩ : ∃ E1, E1 = sigE a b c d x y := ⟨_, rfl⟩
  obtain ⟨zk, hzk⟩ : ∃ zk, zk = whenI (rangeB k 0 3) 3 := ⟨_, rfl⟩
  rw [← hE1, ← hzk] at hE
  have HF : Hid (firstI [E1, zk] = E) := hE
  have HC : Hid (∀ W, Calls Tryz.prog 38 #[.agg #[.int .i64 a, .int .i64 b, .int .i64 c, .int .i64 d, .int .i64 x, .int .i64 y]] W fun e w' => e = .returned (.int .i64 E1) ∧ Below W.heap.size W w') := fun W => by rw [hE1]; exact checkSignal_any a b c d x y W
  have HK : Hid (∀ W, Calls Tryz.prog 39 #[.int .i64 k] W fun e w' => e = .returned (.int .i64 zk) ∧ W = w') := fun W => by rw [hzk]; exact checkTurns_any k W
  obtain ⟨p1, hp1⟩ : ∃ p, p = a * iR k - b * iI k := ⟨_, rfl⟩
  obtain ⟨p2, hp2⟩ : ∃ p, p = a * iI k + b * iR k := ⟨_, rfl⟩
  obtain ⟨p3, hp3⟩ : ∃ p, p = c * iR k - d * iI k := ⟨_, rfl⟩
  obtain ⟨p4, hp4⟩ : ∃ p, p = c * iI k + d * iR k := ⟨_, rfl⟩
  obtain ⟨p5, hp5⟩ : ∃ p, p = x * iR k - y * iI k := ⟨_, rfl⟩
  obtain ⟨p6, hp6⟩ : ∃ p, p = x * iI k + y * iR k := ⟨_, rfl⟩
  have HM : Hid (∀ W, Calls Tryz.prog 40 #[.agg #[.int .i64 a, .int .i64 b, .int .i64 c, .int .i64 d, .int .i64 x, .int .i64 y], .agg #[.int .i64 (iR k), .int .i64 (iI k)], .agg #[.int .i64 (iR k), .int .i64 (iI k)]] W fun e w' => e = .returned (.agg #[.int .i64 p1, .int .i64 p2, .int .i64 p3, .int .i64 p4, .int .i64 p5, .int .i64 p6]) ∧ Below W.heap.size W w') := fun W => by rw [hp1, hp2, hp3, hp4, hp5, hp6]; exact mulS_any a b c d x y (iR k) (iI k) (iR k) (iI k) W hg.g1 hg.g2 hg.g3 (iRI k) (iRI k)
  rw [← hp1, ← hp2, ← hp3, ← hp4, ← hp5, ← hp6]
  have HTU : Hid (∀ W, Tn W → Calls Tryz.prog 41 #[.int .i64 k] W fun e w' => e = .returned (.agg #[.int .i64 (iR k), .int .i64 (iI k)]) ∧ Below W.heap.size W w') := fun W h => turn_any k W h hk
  obtain ⟨u, hu⟩ : ∃ u, u = iR k := ⟨_, rfl⟩
  obtain ⟨v, hv⟩ : ∃ v, v = iI k := ⟨_, rfl⟩
  rw [← hu, ← hv] at HM HTU
  subst hE0
  clear hE hE1 hzk hs hg hk hp1 hp2 hp3 hp4 hp5 hp6 hu hv
  go_enter Tryz.func8, Tryz.ntmps8
  go_upto_region 1 with fail
  refine genT (fun V => Row V (w.heap.size) 34 [.int .i64 a, .int .i64 b, .int .i64 c, .int .i64 d, .int .i64 x, .int .i64 y] ∧ Row V (w.heap.size + 1) 34 [.int .i64 0, .int .i64 0, .int .i64 0, .int .i64 0, .int .i64 0, .int .i64 0] ∧ Tn V ∧ Below w.heap.size w V) ⟨(Row.alloc (rowAt _ _ (by first | rfl | simp only [World.size_alloc])) _), (rowAt _ _ (by first | rfl | simp only [World.size_alloc])), hT.old (((Below.refl _ _).alloc (by first | exact Nat.le_refl _ | (simp only [World.size_alloc]; omega)) _).alloc (by first | exact Nat.le_refl _ | (simp only [World.size_alloc]; omega)) _), (((Below.refl _ _).alloc (by first | exact Nat.le_refl _ | (simp only [World.size_alloc]; omega)) _).alloc (by first | exact Nat.le_refl _ | (simp only [World.size_alloc]; omega)) _)⟩ ?_
  intro W1 s1
  have HS1 := Lib.hid s1
  clear s1 hT
  go_upto_region 4 with (first | (refine wpList_load_row rfl 34 _ rfl (w.heap.size) rfl 34 #[.int .i64 a, .int .i64 b, .int .i64 c, .int .i64 d, .int .i64 x, .int .i64 y] (0, 0) _ HS1.out.1 Tryz.underlying34 rfl ?_ ?_; (kernel_rfl)) | (go_at_call 38; refine (HC.out _).mono ?_; rintro e w2 ⟨rfl, hb_w2⟩; have HS2 : Hid (Row w2 (w.heap.size) 34 [.int .i64 a, .int .i64 b, .int .i64 c, .int .i64 d, .int .i64 x, .int .i64 y] ∧ Row w2 (w.heap.size + 1) 34 [.int .i64 0, .int .i64 0, .int .i64 0, .int .i64 0, .int .i64 0, .int .i64 0] ∧ Tn w2 ∧ Below w.heap.size w w2) := ⟨(HS1.out.1).old hb_w2, (HS1.out.2.1).old hb_w2, (HS1.out.2.2.1).old hb_w2, (HS1.out.2.2.2).trans (hb_w2.mono (HS1.out.2.2.2).size)⟩; clear hb_w2) | (go_at_call 39; refine (HK.out _).mono ?_; rintro e w3 ⟨rfl, rfl⟩) | (go_at_call 32; refine (firstV_any _ _ _ [E1, zk] _ ?_ rfl (by simp)).mono ?_; exact Rd.newT (t := 31); rintro e w9 ⟨rfl, rfl⟩; rw [HF.out]; have HS3 := Lib.hid (⟨(HS2.out.1).old ((Below.refl _ _).alloc (Nat.le_refl _) _), (HS2.out.2.1).old ((Below.refl _ _).alloc (Nat.le_refl _) _), (HS2.out.2.2.1).old ((Below.refl _ _).alloc (Nat.le_refl _) _), (HS2.out.2.2.2).trans (((Below.refl _ _).alloc (Nat.le_refl _) _).mono (HS2.out.2.2.2).size)⟩ : Row (w2.alloc (.cells #[.int .i64 E1, .int .i64 zk] 31)) (w.heap.size) 34 [.int .i64 a, .int .i64 b, .int .i64 c, .int .i64 d, .int .i64 x, .int .i64 y] ∧ Row (w2.alloc (.cells #[.int .i64 E1, .int .i64 zk] 31)) (w.heap.size + 1) 34 [.int .i64 0, .int .i64 0, .int .i64 0, .int .i64 0, .int .i64 0, .int .i64 0] ∧ Tn (w2.alloc (.cells #[.int .i64 E1, .int .i64 zk] 31)) ∧ Below w.heap.size w (w2.alloc (.cells #[.int .i64 E1, .int .i64 zk] 31)))))
  refine genT (fun V => Row V (w.heap.size) 34 [.int .i64 a, .int .i64 b, .int .i64 c, .int .i64 d, .int .i64 x, .int .i64 y] ∧ RowN V (w.heap.size + 1) 34 6 ∧ Tn V ∧ Below w.heap.size w V) ⟨HS3.out.1, ⟨_, rfl, HS3.out.2.1⟩, HS3.out.2.2.1, HS3.out.2.2.2⟩ ?_
  clear HS1 HS2 HS3 HC HK HF
  intro W4 s4
  have HS4 := Lib.hid s4
  clear s4
  refine wp_region_held_drew (S := fun V => Row V (w.heap.size) 34 [.int .i64 a, .int .i64 b, .int .i64 c, .int .i64 d, .int .i64 x, .int .i64 y] ∧ RowN V (w.heap.size + 1) 34 6 ∧ Tn V ∧ Below w.heap.size w V) (by kernel_rfl) ?_ (fun hHeld => ?_)
  · exact ⟨(HS4.out.1).drew, (HS4.out.2.1).drew, (HS4.out.2.2.1).drew, (HS4.out.2.2.2).drew⟩
  refine wpAnyH_take (i := 0) (oi := ⟨some 17, _, _, _, _, _⟩) (v := .agg #[.int .i64 a, .int .i64 b, .int .i64 c, .int .i64 d, .int .i64 x, .int .i64 y]) rfl (by kernel_rfl) (by kernel_rfl) (by kernel_rfl) (fun _ _ _ h => h) (Or.inl ⟨by kernel_rfl, fun V hV => ex_rowT 34 _ rfl (w.heap.size) rfl 34 [.int .i64 a, .int .i64 b, .int .i64 c, .int .i64 d, .int .i64 x, .int .i64 y] _ Tryz.underlying34 rfl (by kernel_rfl) (hV.1)⟩) hHeld ?_
  try simp only [Act.put, List.setIfInBounds_toArray, List.set_cons_zero, List.set_cons_succ]
  refine wpAnyH_take (i := 1) (oi := ⟨some 18, _, _, _, _, _⟩) (v := ?_) rfl (by kernel_rfl) (by kernel_rfl) (by kernel_rfl) (fun _ _ _ h => h) (Or.inl ⟨by kernel_rfl, ?_⟩) hHeld ?_
  rotate_left
  · intro w1 hSw; (try dsimp only at hSw); go_simp <;> with_reducible rfl
  try simp only [Act.put, List.setIfInBounds_toArray, List.set_cons_zero, List.set_cons_succ]
  refine wpAnyH_take (i := 3) (oi := ⟨some 20, _, _, _, _, _⟩) (v := ?_) rfl (by kernel_rfl) (by kernel_rfl) (by kernel_rfl) (fun _ _ _ h => h) (Or.inl ⟨by kernel_rfl, ?_⟩) hHeld ?_
  rotate_left
  · intro w1 hSw; (try dsimp only at hSw); go_simp <;> with_reducible rfl
  try simp only [Act.put, List.setIfInBounds_toArray, List.set_cons_zero, List.set_cons_succ]
  refine wpAnyH_ready (rs := [2]) (by kernel_rfl) (by simp) ?_
  refine AllReadyH.cons rfl (fun K hK => ?_) AllReadyH.nil
  go_simp
  go_at_call 41
  refine (HTU.out _ (hHeld.2.2.1)).mono ?_
  rintro e v2 ⟨rfl, hb2⟩
  try go_simp
  refine hK.out _ _ ?_ (fun hHeld => ?_)
  · exact ⟨(hHeld.1).old hb2, (hHeld.2.1).old hb2, (hHeld.2.2.1).old hb2, (hHeld.2.2.2).trans ((hb2).mono (hHeld.2.2.2).size)⟩
  clear hK K
  try simp only [Act.put, List.setIfInBounds_toArray, List.set_cons_zero, List.set_cons_succ]
  refine wpAnyH_ready (rs := [4]) (by kernel_rfl) (by simp) ?_
  refine AllReadyH.cons rfl (fun K hK => ?_) AllReadyH.nil
  go_simp
  go_at_call 41
  refine (HTU.out _ (hHeld.2.2.1)).mono ?_
  rintro e v4 ⟨rfl, hb4⟩
  try go_simp
  refine hK.out _ _ ?_ (fun hHeld => ?_)
  · exact ⟨(hHeld.1).old hb4, (hHeld.2.1).old hb4, (hHeld.2.2.1).old hb4, (hHeld.2.2.2).trans ((hb4).mono (hHeld.2.2.2).size)⟩
  clear hK K
  try simp only [Act.put, List.setIfInBounds_toArray, List.set_cons_zero, List.set_cons_succ]
  refine wpAnyH_ready (rs := [5]) (by kernel_rfl) (by simp) ?_
  refine AllReadyH.cons rfl (fun K hK => ?_) AllReadyH.nil
  go_simp
  go_at_call 40
  refine (HM.out _).mono ?_
  rintro e v5 ⟨rfl, hb5⟩
  try go_simp
  refine hK.out _ _ ?_ (fun hHeld => ?_)
  · exact ⟨(hHeld.1).old hb5, (hHeld.2.1).old hb5, (hHeld.2.2.1).old hb5, (hHeld.2.2.2).trans ((hb5).mono (hHeld.2.2.2).size)⟩
  clear hK K
  try simp only [Act.put, List.setIfInBounds_toArray, List.set_cons_zero, List.set_cons_succ]
  refine wpAnyH_ready (rs := [6]) (by kernel_rfl) (by simp) ?_
  refine AllReadyH.cons rfl (fun K hK => ?_) AllReadyH.nil
  obtain ⟨vs, hvl, hvr⟩ := (hHeld.2.1)
  have hLast := hHeld
  refine step_store_row rfl 34 _ _ rfl (w.heap.size + 1) [.int .i64 p1, .int .i64 p2, .int .i64 p3, .int .i64 p4, .int .i64 p5, .int .i64 p6] rfl rfl 34 vs hvr (by kernel_rfl) hvl (by simp [Value.oneCell']) ?_
  refine hK.out _ _ ?_ (fun hHeld => ?_)
  · exact ⟨(hHeld.1).farRow (by omega) _, ⟨_, rfl, hvr.setRow _⟩, tnSet hHeld.2.2.1 (by omega) _, Below.setRow (hHeld.2.2.2) (by omega) _⟩
  clear hK K
  try simp only [Act.put, List.setIfInBounds_toArray, List.set_cons_zero, List.set_cons_succ]
  refine wpAnyH_take (i := 7) (oi := ⟨some 5, _, _, _, _, _⟩) (v := ?_) rfl (by kernel_rfl) (by kernel_rfl) (by kernel_rfl) (fun _ _ _ h => h) (Or.inl ⟨by kernel_rfl, ?_⟩) hHeld ?_
  rotate_left
  · intro w1 hSw; (try dsimp only at hSw); go_simp <;> with_reducible rfl
  try simp only [Act.put, List.setIfInBounds_toArray, List.set_cons_zero, List.set_cons_succ]
  refine wpAnyH_done (by kernel_rfl) ?_ _
  go_wp2_with fail
  refine bodyPost_ret (results_rt rfl _ _ (w.heap.size + 1) 34 #[.int .i64 p1, .int .i64 p2, .int .i64 p3, .int .i64 p4, .int .i64 p5, .int .i64 p6] (0, 0) _ rfl (hvr.setRow [.int .i64 p1, .int .i64 p2, .int .i64 p3, .int .i64 p4, .int .i64 p5, .int .i64 p6]) Tryz.underlying34 rfl (by kernel_rfl)) rfl ⟨rfl, Below.setRow hLast.2.2.2 (by omega) _⟩

theorem firstI_left (l : List Int) (k : List Int) : firstI (firstI l :: k) = firstI (l ++ k) := by
  induction l with
  | nil => rfl
  | cons x l ih =>
    by_cases h : x = 0
    · subst h
      have e1 : firstI (0 :: l) = firstI l := by rw [firstI, if_pos rfl]
      have e2 : firstI (0 :: (l ++ k)) = firstI (l ++ k) := by rw [firstI, if_pos rfl]
      rw [e1, List.cons_append, e2]
      exact ih
    · have e1 : firstI (x :: l) = x := by rw [firstI, if_neg h]
      rw [e1, List.cons_append, firstI, if_neg h, firstI, if_neg h]
theorem sigE_ref (a b c d x y : Int) : firstI [partE 10000 (a, b), partE 10000 (c, d), partE 10000 (x, y), whenI (a == 0 && b == 0) 6] = sigE a b c d x y := by
  unfold sigE
  rw [firstI_left]
  rfl
set_option maxRecDepth 100000 in
set_option maxHeartbeats 1000000 in
theorem checkPartR_any (a b M : Int) (w : World) (hM : M.natAbs ≤ 1000000) : Calls Tryz.prog 93 #[.agg #[.int .i64 a, .int .i64 b], .int .i64 M] w fun e w' => e = .returned (.int .i64 (partE M (a, b))) ∧ Below w.heap.size w w' := by
  have e1 : IntKind.i64.wrap (-M) = -M := IntWalk.i64_in _ (by omega)
  have e2 : IntKind.i64.wrap (0 - M) = -M := by rw [Int.zero_sub]; exact e1
  clear hM
  go_enter Tryz.func93, Tryz.ntmps93
  go_upto_region 1 with fail
  refine genT (fun V => Row V (w.heap.size) 25 [.int .i64 a, .int .i64 b] ∧ Below w.heap.size w V) ⟨(rowAt _ _ (by first | rfl | simp only [World.size_alloc])), ((Below.refl _ _).alloc (by first | exact Nat.le_refl _ | (simp only [World.size_alloc]; omega)) _)⟩ ?_
  intro W1 s1
  have HS1 := Lib.hid s1
  clear s1
  refine wp_region_held_drew (S := fun V => Row V (w.heap.size) 25 [.int .i64 a, .int .i64 b] ∧ Below w.heap.size w V) (by kernel_rfl) ?_ (fun hHeld => ?_)
  · exact ⟨(HS1.out.1).drew, (HS1.out.2).drew⟩
  refine wpAnyH_take (i := 0) (oi := ⟨some 5, _, _, _, _, _⟩) (v := ?_) rfl (by kernel_rfl) (by kernel_rfl) (by kernel_rfl) (fun _ _ _ h => h) (Or.inl ⟨by kernel_rfl, ?_⟩) hHeld ?_
  rotate_left
  · intro w1 hSw; (try dsimp only at hSw); go_simp <;> with_reducible rfl
  try simp only [Act.put, List.setIfInBounds_toArray, List.set_cons_zero, List.set_cons_succ]
  refine wpAnyH_take (i := 1) (oi := ⟨some 6, _, _, _, _, _⟩) (v := ?_) rfl (by kernel_rfl) (by kernel_rfl) (by kernel_rfl) (fun _ _ _ h => h) (Or.inl ⟨by kernel_rfl, ?_⟩) hHeld ?_
  rotate_left
  · intro w1 hSw; (try dsimp only at hSw); have cc := (hSw.1).cell 0; simp only [List.getElem?_cons_succ, List.getElem?_cons_zero] at cc; go_simp <;> with_reducible rfl
  try simp only [Act.put, List.setIfInBounds_toArray, List.set_cons_zero, List.set_cons_succ]
  refine wpAnyH_take (i := 2) (oi := ⟨some 7, _, _, _, _, _⟩) (v := ?_) rfl (by kernel_rfl) (by kernel_rfl) (by kernel_rfl) (fun _ _ _ h => h) (Or.inl ⟨by kernel_rfl, ?_⟩) hHeld ?_
  rotate_left
  · intro w1 hSw; (try dsimp only at hSw); go_simp <;> with_reducible rfl
  try simp only [Act.put, List.setIfInBounds_toArray, List.set_cons_zero, List.set_cons_succ]
  refine wpAnyH_take (i := 3) (oi := ⟨some 8, _, _, _, _, _⟩) (v := ?_) rfl (by kernel_rfl) (by kernel_rfl) (by kernel_rfl) (fun _ _ _ h => h) (Or.inl ⟨by kernel_rfl, ?_⟩) hHeld ?_
  rotate_left
  · intro w1 hSw; (try dsimp only at hSw); go_simp <;> with_reducible rfl
  try simp only [Act.put, List.setIfInBounds_toArray, List.set_cons_zero, List.set_cons_succ]
  refine wpAnyH_take (i := 4) (oi := ⟨some 9, _, _, _, _, _⟩) (v := ?_) rfl (by kernel_rfl) (by kernel_rfl) (by kernel_rfl) (fun _ _ _ h => h) (Or.inl ⟨by kernel_rfl, ?_⟩) hHeld ?_
  rotate_left
  · intro w1 hSw; (try dsimp only at hSw); go_simp <;> with_reducible rfl
  try simp only [Act.put, List.setIfInBounds_toArray, List.set_cons_zero, List.set_cons_succ]
  refine wpAnyH_take (i := 6) (oi := ⟨some 11, _, _, _, _, _⟩) (v := ?_) rfl (by kernel_rfl) (by kernel_rfl) (by kernel_rfl) (fun _ _ _ h => h) (Or.inl ⟨by kernel_rfl, ?_⟩) hHeld ?_
  rotate_left
  · intro w1 hSw; (try dsimp only at hSw); go_simp <;> with_reducible rfl
  try simp only [Act.put, List.setIfInBounds_toArray, List.set_cons_zero, List.set_cons_succ]
  refine wpAnyH_take (i := 7) (oi := ⟨some 12, _, _, _, _, _⟩) (v := ?_) rfl (by kernel_rfl) (by kernel_rfl) (by kernel_rfl) (fun _ _ _ h => h) (Or.inl ⟨by kernel_rfl, ?_⟩) hHeld ?_
  rotate_left
  · intro w1 hSw; (try dsimp only at hSw); have cc := (hSw.1).cell 1; simp only [List.getElem?_cons_succ, List.getElem?_cons_zero] at cc; go_simp <;> with_reducible rfl
  try simp only [Act.put, List.setIfInBounds_toArray, List.set_cons_zero, List.set_cons_succ]
  refine wpAnyH_take (i := 8) (oi := ⟨some 13, _, _, _, _, _⟩) (v := ?_) rfl (by kernel_rfl) (by kernel_rfl) (by kernel_rfl) (fun _ _ _ h => h) (Or.inl ⟨by kernel_rfl, ?_⟩) hHeld ?_
  rotate_left
  · intro w1 hSw; (try dsimp only at hSw); go_simp <;> with_reducible rfl
  try simp only [Act.put, List.setIfInBounds_toArray, List.set_cons_zero, List.set_cons_succ]
  refine wpAnyH_take (i := 9) (oi := ⟨some 14, _, _, _, _, _⟩) (v := ?_) rfl (by kernel_rfl) (by kernel_rfl) (by kernel_rfl) (fun _ _ _ h => h) (Or.inl ⟨by kernel_rfl, ?_⟩) hHeld ?_
  rotate_left
  · intro w1 hSw; (try dsimp only at hSw); go_simp <;> with_reducible rfl
  try simp only [Act.put, List.setIfInBounds_toArray, List.set_cons_zero, List.set_cons_succ]
  refine wpAnyH_take (i := 10) (oi := ⟨some 15, _, _, _, _, _⟩) (v := ?_) rfl (by kernel_rfl) (by kernel_rfl) (by kernel_rfl) (fun _ _ _ h => h) (Or.inl ⟨by kernel_rfl, ?_⟩) hHeld ?_
  rotate_left
  · intro w1 hSw; (try dsimp only at hSw); go_simp <;> with_reducible rfl
  try simp only [Act.put, List.setIfInBounds_toArray, List.set_cons_zero, List.set_cons_succ]
  refine wpAnyH_ready (rs := [5]) (by kernel_rfl) (by simp) ?_
  refine AllReadyH.cons rfl (fun K hK => ?_) AllReadyH.nil
  go_simp
  go_at_call 134
  refine (checkRange_any a (-M) M _).mono ?_
  rintro e v5 ⟨rfl, rfl⟩
  try go_simp
  refine hK.out _ _ ?_ (fun hHeld => ?_)
  · exact hHeld
  clear hK K
  try simp only [Act.put, List.setIfInBounds_toArray, List.set_cons_zero, List.set_cons_succ]
  refine wpAnyH_ready (rs := [11]) (by kernel_rfl) (by simp) ?_
  refine AllReadyH.cons rfl (fun K hK => ?_) AllReadyH.nil
  go_simp
  go_at_call 134
  refine (checkRange_any b (-M) M _).mono ?_
  rintro e v11 ⟨rfl, rfl⟩
  try go_simp
  refine hK.out _ _ ?_ (fun hHeld => ?_)
  · exact hHeld
  clear hK K
  try simp only [Act.put, List.setIfInBounds_toArray, List.set_cons_zero, List.set_cons_succ]
  refine wpAnyH_ready (rs := [12]) (by kernel_rfl) (by simp) ?_
  refine AllReadyH.cons rfl (fun K hK => ?_) AllReadyH.nil
  go_simp
  refine hK.out _ _ ?_ (fun hHeld => ?_)
  · exact ⟨(hHeld.1).old ((Below.refl _ _).alloc (Nat.le_refl _) _), (hHeld.2).trans ((((Below.refl _ _).alloc (Nat.le_refl _) _)).mono (hHeld.2).size)⟩
  clear hK K
  try simp only [Act.put, List.setIfInBounds_toArray, List.set_cons_zero, List.set_cons_succ]
  refine wpAnyH_ready (rs := [13]) (by kernel_rfl) (by simp) ?_
  refine AllReadyH.cons rfl (fun K hK => ?_) AllReadyH.nil
  go_simp
  go_at_call 92
  refine (first_any _ _ _ [whenI (rangeB a (-M) M) 3, whenI (rangeB b (-M) M) 3] _ ?_ rfl (by simp)).mono ?_
  · exact Rd.newT (t := 3)
  rintro e v99 ⟨rfl, rfl⟩
  try go_simp
  refine hK.out _ _ ?_ (fun hHeld => ?_)
  · exact hHeld
  clear hK K
  try simp only [Act.put, List.setIfInBounds_toArray, List.set_cons_zero, List.set_cons_succ]
  refine wpAnyH_take (i := 14) (oi := ⟨some 4, _, _, _, _, _⟩) (v := ?_) rfl (by kernel_rfl) (by kernel_rfl) (by kernel_rfl) (fun _ _ _ h => h) (Or.inl ⟨by kernel_rfl, ?_⟩) hHeld ?_
  rotate_left
  · intro w1 hSw; (try dsimp only at hSw); go_simp <;> with_reducible rfl
  try simp only [Act.put, List.setIfInBounds_toArray, List.set_cons_zero, List.set_cons_succ]
  refine wpAnyH_done (by kernel_rfl) ?_ _
  go_wp2_with fail
  go_ret
  exact ⟨rfl, hHeld.2⟩
set_option maxRecDepth 100000 in
set_option maxHeartbeats 1000000 in
theorem zeroR_any (a b : Int) (w : World) : Calls Tryz.prog 95 #[.agg #[.int .i64 a, .int .i64 b]] w fun e w' => e = .returned (.bool (a == 0 && b == 0)) ∧ Below w.heap.size w w' := by
  by_cases ha : a = 0
  · have h1 : (a == 0) = true := by simpa using ha
    clear ha
    go_enter Tryz.func95, Tryz.ntmps95
    go_upto_region 1 with fail
    refine genT (fun V => Row V (w.heap.size) 25 [.int .i64 a, .int .i64 b] ∧ Below w.heap.size w V) ⟨(rowAt _ _ (by first | rfl | simp only [World.size_alloc])), ((Below.refl _ _).alloc (by first | exact Nat.le_refl _ | (simp only [World.size_alloc]; omega)) _)⟩ ?_
    intro W1 s1
    have HS1 := Lib.hid s1
    clear s1
    have c0 := HS1.out.1.cell 0; have c1 := HS1.out.1.cell 1
    simp only [List.getElem?_cons_succ, List.getElem?_cons_zero] at c0 c1
    go_wp2_with fail
    go_ret
    exact ⟨by rw [h1]; first | rfl | simp, HS1.out.2⟩
  · have h1 : (a == 0) = false := by simpa using ha
    clear ha
    go_enter Tryz.func95, Tryz.ntmps95
    go_upto_region 1 with fail
    refine genT (fun V => Row V (w.heap.size) 25 [.int .i64 a, .int .i64 b] ∧ Below w.heap.size w V) ⟨(rowAt _ _ (by first | rfl | simp only [World.size_alloc])), ((Below.refl _ _).alloc (by first | exact Nat.le_refl _ | (simp only [World.size_alloc]; omega)) _)⟩ ?_
    intro W1 s1
    have HS1 := Lib.hid s1
    clear s1
    have c0 := HS1.out.1.cell 0; have c1 := HS1.out.1.cell 1
    simp only [List.getElem?_cons_succ, List.getElem?_cons_zero] at c0 c1
    go_wp2_with fail
    go_ret
    exact ⟨by rw [h1]; rfl, HS1.out.2⟩
set_option maxRecDepth 100000 in
set_option maxHeartbeats 1000000 in
theorem checkSignalR_any (a b c d x y : Int) (w : World) : Calls Tryz.prog 30 #[.agg #[.int .i64 a, .int .i64 b, .int .i64 c, .int .i64 d, .int .i64 x, .int .i64 y]] w fun e w' => e = .returned (.int .i64 (sigE a b c d x y)) ∧ Below w.heap.size w w' := by
  rw [← sigE_ref]
  obtain ⟨P1, hP1⟩ : ∃ P, P = partE 10000 (a, b) := ⟨_, rfl⟩
  obtain ⟨P2, hP2⟩ : ∃ P, P = partE 10000 (c, d) := ⟨_, rfl⟩
  obtain ⟨P3, hP3⟩ : ∃ P, P = partE 10000 (x, y) := ⟨_, rfl⟩
  obtain ⟨zb, hzb⟩ : ∃ zb, zb = (a == 0 && b == 0) := ⟨_, rfl⟩
  have HC1 : Hid (∀ W, Calls Tryz.prog 93 #[.agg #[.int .i64 a, .int .i64 b], .int .i64 10000] W fun e w' => e = .returned (.int .i64 P1) ∧ Below W.heap.size W w') := fun W => by rw [hP1]; exact checkPartR_any a b 10000 W (by decide)
  have HC2 : Hid (∀ W, Calls Tryz.prog 93 #[.agg #[.int .i64 c, .int .i64 d], .int .i64 10000] W fun e w' => e = .returned (.int .i64 P2) ∧ Below W.heap.size W w') := fun W => by rw [hP2]; exact checkPartR_any c d 10000 W (by decide)
  have HC3 : Hid (∀ W, Calls Tryz.prog 93 #[.agg #[.int .i64 x, .int .i64 y], .int .i64 10000] W fun e w' => e = .returned (.int .i64 P3) ∧ Below W.heap.size W w') := fun W => by rw [hP3]; exact checkPartR_any x y 10000 W (by decide)
  have HZ : Hid (∀ W, Calls Tryz.prog 95 #[.agg #[.int .i64 a, .int .i64 b]] W fun e w' => e = .returned (.bool zb) ∧ Below W.heap.size W w') := fun W => by rw [hzb]; exact zeroR_any a b W
  rw [← hP1, ← hP2, ← hP3, ← hzb]
  clear hP1 hP2 hP3 hzb
  go_enter Tryz.func30, Tryz.ntmps30
  go_upto_region 1 with fail
  refine genT (fun V => Row V (w.heap.size) 27 [.int .i64 a, .int .i64 b, .int .i64 c, .int .i64 d, .int .i64 x, .int .i64 y] ∧ Below w.heap.size w V) ⟨(rowAt _ _ (by first | rfl | simp only [World.size_alloc])), ((Below.refl _ _).alloc (by first | exact Nat.le_refl _ | (simp only [World.size_alloc]; omega)) _)⟩ ?_
  intro W1 s1
  have HS1 := Lib.hid s1
  clear s1
  refine wp_region_held_drew (S := fun V => Row V (w.heap.size) 27 [.int .i64 a, .int .i64 b, .int .i64 c, .int .i64 d, .int .i64 x, .int .i64 y] ∧ Below w.heap.size w V) (by kernel_rfl) ?_ (fun hHeld => ?_)
  · exact ⟨(HS1.out.1).drew, (HS1.out.2).drew⟩
  refine wpAnyH_take (i := 0) (oi := ⟨some 3, _, _, _, _, _⟩) (v := ?_) rfl (by kernel_rfl) (by kernel_rfl) (by kernel_rfl) (fun _ _ _ h => h) (Or.inl ⟨by kernel_rfl, ?_⟩) hHeld ?_
  rotate_left
  · intro w1 hSw; (try dsimp only at hSw); go_simp <;> with_reducible rfl
  try simp only [Act.put, List.setIfInBounds_toArray, List.set_cons_zero, List.set_cons_succ]
  refine wpAnyH_take (i := 1) (oi := ⟨some 4, _, _, _, _, _⟩) (v := .agg #[.int .i64 a, .int .i64 b]) rfl (by kernel_rfl) (by kernel_rfl) (by kernel_rfl) (fun _ _ _ h => h) (Or.inl ⟨by kernel_rfl, fun V hV => ex_Gauss _ rfl (w.heap.size) 0 rfl ((hV.1).cell 0) ((hV.1).cell 1)⟩) hHeld ?_
  try simp only [Act.put, List.setIfInBounds_toArray, List.set_cons_zero, List.set_cons_succ]
  refine wpAnyH_take (i := 3) (oi := ⟨some 6, _, _, _, _, _⟩) (v := ?_) rfl (by kernel_rfl) (by kernel_rfl) (by kernel_rfl) (fun _ _ _ h => h) (Or.inl ⟨by kernel_rfl, ?_⟩) hHeld ?_
  rotate_left
  · intro w1 hSw; (try dsimp only at hSw); go_simp <;> with_reducible rfl
  try simp only [Act.put, List.setIfInBounds_toArray, List.set_cons_zero, List.set_cons_succ]
  refine wpAnyH_take (i := 4) (oi := ⟨some 7, _, _, _, _, _⟩) (v := .agg #[.int .i64 c, .int .i64 d]) rfl (by kernel_rfl) (by kernel_rfl) (by kernel_rfl) (fun _ _ _ h => h) (Or.inl ⟨by kernel_rfl, fun V hV => ex_Gauss _ rfl (w.heap.size) 2 rfl ((hV.1).cell 2) ((hV.1).cell 3)⟩) hHeld ?_
  try simp only [Act.put, List.setIfInBounds_toArray, List.set_cons_zero, List.set_cons_succ]
  refine wpAnyH_take (i := 6) (oi := ⟨some 9, _, _, _, _, _⟩) (v := ?_) rfl (by kernel_rfl) (by kernel_rfl) (by kernel_rfl) (fun _ _ _ h => h) (Or.inl ⟨by kernel_rfl, ?_⟩) hHeld ?_
  rotate_left
  · intro w1 hSw; (try dsimp only at hSw); go_simp <;> with_reducible rfl
  try simp only [Act.put, List.setIfInBounds_toArray, List.set_cons_zero, List.set_cons_succ]
  refine wpAnyH_take (i := 7) (oi := ⟨some 10, _, _, _, _, _⟩) (v := .agg #[.int .i64 x, .int .i64 y]) rfl (by kernel_rfl) (by kernel_rfl) (by kernel_rfl) (fun _ _ _ h => h) (Or.inl ⟨by kernel_rfl, fun V hV => ex_Gauss _ rfl (w.heap.size) 4 rfl ((hV.1).cell 4) ((hV.1).cell 5)⟩) hHeld ?_
  try simp only [Act.put, List.setIfInBounds_toArray, List.set_cons_zero, List.set_cons_succ]
  refine wpAnyH_take (i := 9) (oi := ⟨some 12, _, _, _, _, _⟩) (v := ?_) rfl (by kernel_rfl) (by kernel_rfl) (by kernel_rfl) (fun _ _ _ h => h) (Or.inl ⟨by kernel_rfl, ?_⟩) hHeld ?_
  rotate_left
  · intro w1 hSw; (try dsimp only at hSw); go_simp <;> with_reducible rfl
  try simp only [Act.put, List.setIfInBounds_toArray, List.set_cons_zero, List.set_cons_succ]
  refine wpAnyH_take (i := 10) (oi := ⟨some 13, _, _, _, _, _⟩) (v := .agg #[.int .i64 a, .int .i64 b]) rfl (by kernel_rfl) (by kernel_rfl) (by kernel_rfl) (fun _ _ _ h => h) (Or.inl ⟨by kernel_rfl, fun V hV => ex_Gauss _ rfl (w.heap.size) 0 rfl ((hV.1).cell 0) ((hV.1).cell 1)⟩) hHeld ?_
  try simp only [Act.put, List.setIfInBounds_toArray, List.set_cons_zero, List.set_cons_succ]
  refine wpAnyH_ready (rs := [2]) (by kernel_rfl) (by simp) ?_
  refine AllReadyH.cons rfl (fun K hK => ?_) AllReadyH.nil
  go_simp
  go_at_call 93
  refine (HC1.out _).mono ?_
  rintro e v2 ⟨rfl, hb2⟩
  try go_simp
  refine hK.out _ _ ?_ (fun hHeld => ?_)
  · exact ⟨(hHeld.1).old hb2, (hHeld.2).trans ((hb2).mono (hHeld.2).size)⟩
  clear hK K
  try simp only [Act.put, List.setIfInBounds_toArray, List.set_cons_zero, List.set_cons_succ]
  refine wpAnyH_ready (rs := [5]) (by kernel_rfl) (by simp) ?_
  refine AllReadyH.cons rfl (fun K hK => ?_) AllReadyH.nil
  go_simp
  go_at_call 93
  refine (HC2.out _).mono ?_
  rintro e v5 ⟨rfl, hb5⟩
  try go_simp
  refine hK.out _ _ ?_ (fun hHeld => ?_)
  · exact ⟨(hHeld.1).old hb5, (hHeld.2).trans ((hb5).mono (hHeld.2).size)⟩
  clear hK K
  try simp only [Act.put, List.setIfInBounds_toArray, List.set_cons_zero, List.set_cons_succ]
  refine wpAnyH_ready (rs := [8]) (by kernel_rfl) (by simp) ?_
  refine AllReadyH.cons rfl (fun K hK => ?_) AllReadyH.nil
  go_simp
  go_at_call 93
  refine (HC3.out _).mono ?_
  rintro e v8 ⟨rfl, hb8⟩
  try go_simp
  refine hK.out _ _ ?_ (fun hHeld => ?_)
  · exact ⟨(hHeld.1).old hb8, (hHeld.2).trans ((hb8).mono (hHeld.2).size)⟩
  clear hK K
  try simp only [Act.put, List.setIfInBounds_toArray, List.set_cons_zero, List.set_cons_succ]
  refine wpAnyH_ready (rs := [11]) (by kernel_rfl) (by simp) ?_
  refine AllReadyH.cons rfl (fun K hK => ?_) AllReadyH.nil
  go_simp
  go_at_call 95
  refine (HZ.out _).mono ?_
  rintro e v11 ⟨rfl, hb11⟩
  try go_simp
  refine hK.out _ _ ?_ (fun hHeld => ?_)
  · exact ⟨(hHeld.1).old hb11, (hHeld.2).trans ((hb11).mono (hHeld.2).size)⟩
  clear hK K
  try simp only [Act.put, List.setIfInBounds_toArray, List.set_cons_zero, List.set_cons_succ]
  refine wpAnyH_ready (rs := [12]) (by kernel_rfl) (by simp) ?_
  refine AllReadyH.cons rfl (fun K hK => ?_) AllReadyH.nil
  go_simp
  go_at_call 94
  refine (when_any zb 6 _).mono ?_
  rintro e v12 ⟨rfl, rfl⟩
  try go_simp
  refine hK.out _ _ ?_ (fun hHeld => ?_)
  · exact hHeld
  clear hK K
  try simp only [Act.put, List.setIfInBounds_toArray, List.set_cons_zero, List.set_cons_succ]
  refine wpAnyH_ready (rs := [13]) (by kernel_rfl) (by simp) ?_
  refine AllReadyH.cons rfl (fun K hK => ?_) AllReadyH.nil
  go_simp
  refine hK.out _ _ ?_ (fun hHeld => ?_)
  · exact ⟨(hHeld.1).old ((Below.refl _ _).alloc (Nat.le_refl _) _), (hHeld.2).trans ((((Below.refl _ _).alloc (Nat.le_refl _) _)).mono (hHeld.2).size)⟩
  clear hK K
  try simp only [Act.put, List.setIfInBounds_toArray, List.set_cons_zero, List.set_cons_succ]
  refine wpAnyH_ready (rs := [14]) (by kernel_rfl) (by simp) ?_
  refine AllReadyH.cons rfl (fun K hK => ?_) AllReadyH.nil
  go_simp
  go_at_call 92
  refine (first_any _ _ _ [P1, P2, P3, whenI zb 6] _ ?_ rfl (by simp)).mono ?_
  · exact Rd.newT (t := 3)
  rintro e v99 ⟨rfl, rfl⟩
  try go_simp
  refine hK.out _ _ ?_ (fun hHeld => ?_)
  · exact hHeld
  clear hK K
  try simp only [Act.put, List.setIfInBounds_toArray, List.set_cons_zero, List.set_cons_succ]
  refine wpAnyH_take (i := 15) (oi := ⟨some 2, _, _, _, _, _⟩) (v := ?_) rfl (by kernel_rfl) (by kernel_rfl) (by kernel_rfl) (fun _ _ _ h => h) (Or.inl ⟨by kernel_rfl, ?_⟩) hHeld ?_
  rotate_left
  · intro w1 hSw; (try dsimp only at hSw); go_simp <;> with_reducible rfl
  try simp only [Act.put, List.setIfInBounds_toArray, List.set_cons_zero, List.set_cons_succ]
  refine wpAnyH_done (by kernel_rfl) ?_ _
  go_wp2_with fail
  go_ret
  exact ⟨rfl, hHeld.2⟩
theorem blA {w V : World} (h : Below w.heap.size w V) (o : Obj) : Below w.heap.size w (V.alloc o) := h.alloc h.size o
structure QtP (w : World) (E a b c d x y : Int) (e : Ending) (w' : World) : Prop where
  out : ∃ r, e = .returned (.bool r) ∧ (r = true → E = 0 ∧ ∀ z ∈ [a, b, c, d, x, y], -300 ≤ z ∧ z ≤ 300) ∧ Below w.heap.size w w'
set_option maxRecDepth 100000 in
set_option maxHeartbeats 4000000 in
theorem quiet_any (a b c d x y : Int) (w : World) : Calls Tryz.prog 5 #[.agg #[.int .i64 a, .int .i64 b, .int .i64 c, .int .i64 d, .int .i64 x, .int .i64 y], .int .i64 300] w (QtP w (sigE a b c d x y) a b c d x y) := by
  obtain ⟨E, hE⟩ : ∃ E, E = sigE a b c d x y := ⟨_, rfl⟩
  have HC : Hid (∀ W, Calls Tryz.prog 30 #[.agg #[.int .i64 a, .int .i64 b, .int .i64 c, .int .i64 d, .int .i64 x, .int .i64 y]] W fun e w' => e = .returned (.int .i64 E) ∧ Below W.heap.size W w') := fun W => by rw [hE]; exact checkSignalR_any a b c d x y W
  rw [← hE]
  clear hE
  have hi0 : ∀ w, (Instr.index 99 (.agg #[.int .i64 a, .int .i64 b, .int .i64 c, .int .i64 d, .int .i64 x, .int .i64 y]) (.int .i64 0)).run Tryz.prog w = .ok (.agg #[.int .i64 a, .int .i64 b]) w := fun w => by kernel_rfl
  have hi1 : ∀ w, (Instr.index 99 (.agg #[.int .i64 a, .int .i64 b, .int .i64 c, .int .i64 d, .int .i64 x, .int .i64 y]) (.int .i64 1)).run Tryz.prog w = .ok (.agg #[.int .i64 c, .int .i64 d]) w := fun w => by kernel_rfl
  have hi2 : ∀ w, (Instr.index 99 (.agg #[.int .i64 a, .int .i64 b, .int .i64 c, .int .i64 d, .int .i64 x, .int .i64 y]) (.int .i64 2)).run Tryz.prog w = .ok (.agg #[.int .i64 x, .int .i64 y]) w := fun w => by kernel_rfl
  go_enter Tryz.func5, Tryz.ntmps5
  go_upto_region 1 with fail
  refine genT (fun V => Row V w.heap.size 27 [.int .i64 a, .int .i64 b, .int .i64 c, .int .i64 d, .int .i64 x, .int .i64 y] ∧ Below w.heap.size w V) ⟨Row.new w _ [.int .i64 a, .int .i64 b, .int .i64 c, .int .i64 d, .int .i64 x, .int .i64 y], (Below.refl _ _).alloc (Nat.le_refl _) _⟩ ?_
  intro W1 s1
  have HS1 := Lib.hid s1
  clear s1
  go_upto_region 3 with (first
    | (refine wpList_load_row rfl 27 _ rfl (w.heap.size) rfl 27 #[.int .i64 a, .int .i64 b, .int .i64 c, .int .i64 d, .int .i64 x, .int .i64 y] (0, 0) _ HS1.out.1 Tryz.underlying27 rfl ?_ ?_; (kernel_rfl))
    | (go_at_call 30; refine (HC.out _).mono ?_; rintro e w2 ⟨rfl, hb2⟩; have HS2 : Hid (Row w2 w.heap.size 27 [.int .i64 a, .int .i64 b, .int .i64 c, .int .i64 d, .int .i64 x, .int .i64 y] ∧ Below w.heap.size w w2) := ⟨HS1.out.1.old hb2, HS1.out.2.trans (hb2.mono HS1.out.2.size)⟩; clear hb2))
  all_goals (try (go_ret; exact ⟨⟨_, rfl, fun h => (Bool.noConfusion h), by first | exact HS2.out.2 | exact blA HS2.out.2 _ | exact blA (blA HS2.out.2 _) _ | exact blA (blA (blA HS2.out.2 _) _) _⟩⟩))
  have z0 := HS2.out.1.cell 0; have z1 := HS2.out.1.cell 1; have z2 := HS2.out.1.cell 2; have z3 := HS2.out.1.cell 3; have z4 := HS2.out.1.cell 4; have z5 := HS2.out.1.cell 5
  simp only [List.getElem?_cons_succ, List.getElem?_cons_zero] at z0 z1 z2 z3 z4 z5
  go_wp2_with fail
  refine wp_loop_rounds 4 ?_
  rw [rounds_succ]
  go_upto_region 6 with fail
  go_upto_region 8 with fail
  all_goals (try (go_ret; exact ⟨⟨_, rfl, fun h => (Bool.noConfusion h), by first | exact HS2.out.2 | exact blA HS2.out.2 _ | exact blA (blA HS2.out.2 _) _ | exact blA (blA (blA HS2.out.2 _) _) _⟩⟩))
  go_wp2_with fail
  rw [rounds_succ]
  go_upto_region 8 with fail
  all_goals (try (go_ret; exact ⟨⟨_, rfl, fun h => (Bool.noConfusion h), by first | exact HS2.out.2 | exact blA HS2.out.2 _ | exact blA (blA HS2.out.2 _) _ | exact blA (blA (blA HS2.out.2 _) _) _⟩⟩))
  go_wp2_with fail
  rw [rounds_succ]
  go_upto_region 8 with fail
  all_goals (try (go_ret; exact ⟨⟨_, rfl, fun h => (Bool.noConfusion h), by first | exact HS2.out.2 | exact blA HS2.out.2 _ | exact blA (blA HS2.out.2 _) _ | exact blA (blA (blA HS2.out.2 _) _) _⟩⟩))
  go_wp2_with fail
  rw [rounds_succ]
  go_wp2_with fail
  go_ret
  refine ⟨⟨_, rfl, fun _ => ⟨by simpa using ‹(E != 0) = false›, fun z hz => ?_⟩, blA (blA (blA HS2.out.2 _) _) _⟩⟩
  simp only [List.mem_cons, List.not_mem_nil, or_false] at hz
  rcases hz with rfl | rfl | rfl | rfl | rfl | rfl <;> omega
def HTb (w : World) : Prop := Tz w ∧ Tn w
theorem HTb.old {w w' : World} (h : HTb w) (hb : Below w.heap.size w w') : HTb w' := ⟨h.1.old hb, h.2.old hb⟩
def KpH (w0 : World) (rows : List (Nat × TypeId × List Value)) (rds : List (Option Addr × List Value)) (V : World) : Prop := HTb V ∧ (∀ r ∈ rows, Row V r.1 r.2.1 r.2.2) ∧ (∀ r ∈ rds, Rd V r.1 r.2) ∧ Below w0.heap.size w0 V
theorem KpH.old {w0 V V' : World} {rows : List (Nat × TypeId × List Value)} {rds : List (Option Addr × List Value)} (h : KpH w0 rows rds V) (hb : Below V.heap.size V V') : KpH w0 rows rds V' :=
  ⟨h.1.old hb, fun r hr => (h.2.1 r hr).old hb, fun r hr => (h.2.2.1 r hr).below hb, h.2.2.2.trans (hb.mono h.2.2.2.size)⟩
theorem KpH.row {w0 V : World} {rows : List (Nat × TypeId × List Value)} {rds : List (Option Addr × List Value)} (h : KpH w0 rows rds V) (g : Nat) (t : TypeId) (cs : List Value) (hm : (g, t, cs) ∈ rows) : Row V g t cs := h.2.1 (g, t, cs) hm
theorem KpH.rd {w0 V : World} {rows : List (Nat × TypeId × List Value)} {rds : List (Option Addr × List Value)} (h : KpH w0 rows rds V) (A : Option Addr) (cs : List Value) (hm : (A, cs) ∈ rds) : Rd V A cs := h.2.2.1 (A, cs) hm
theorem KpH.cons {w0 V : World} {rows : List (Nat × TypeId × List Value)} {rds : List (Option Addr × List Value)} (h : KpH w0 rows rds V) {g : Nat} {t : TypeId} {cs : List Value} (hr : Row V g t cs) : KpH w0 ((g, t, cs) :: rows) rds V :=
  ⟨h.1, fun r hm => by rcases List.mem_cons.1 hm with rfl | hm; exact hr; exact h.2.1 r hm, h.2.2.1, h.2.2.2⟩
theorem KpH.rcons {w0 V : World} {rows : List (Nat × TypeId × List Value)} {rds : List (Option Addr × List Value)} (h : KpH w0 rows rds V) {A : Option Addr} {cs : List Value} (hr : Rd V A cs) : KpH w0 rows ((A, cs) :: rds) V :=
  ⟨h.1, h.2.1, fun r hm => by rcases List.mem_cons.1 hm with rfl | hm; exact hr; exact h.2.2.1 r hm, h.2.2.2⟩
theorem KpH.drewN {w0 V : World} {rows : List (Nat × TypeId × List Value)} {rds : List (Option Addr × List Value)} (h : KpH w0 rows rds V) (q : Nat) : KpH w0 rows rds (V.drewN q) := h.old (below_drewN (Below.refl _ _) q)
def SentOk : Prop := ∀ w, Calls Tryz.prog 6 #[] w fun e w' => e = .returned (.bool true) ∧ Below w.heap.size w w'
theorem bl2 {w V : World} (h : Below w.heap.size w V) (o p : Obj) : Below w.heap.size w ((V.alloc o).alloc p) := blA (blA h o) p
set_option maxRecDepth 100000 in
set_option maxHeartbeats 4000000 in
theorem heard_out0 (A : Option Addr) (c : Nat) (x0 x1 a b c' d x y : Int) (w : World) (hS : SentOk) : Calls Tryz.prog 3 #[.slice A 0 c, .agg #[.int .u8 x0, .int .u8 x1], .agg #[.int .i64 a, .int .i64 b, .int .i64 c', .int .i64 d, .int .i64 x, .int .i64 y]] w fun e w' => e = .returned (.bool true) ∧ Below w.heap.size w w' := by
  have HS := Lib.hid hS
  clear hS
  go_enter Tryz.func3, Tryz.ntmps3
  go_wp2_with (go_at_call 6; refine (HS.out _).mono ?_; rintro e w1 ⟨rfl, hb⟩; have HB1 := Lib.hid hb; clear hb)
  go_ret
  exact ⟨rfl, (bl2 (Below.refl _ _) _ _).trans (HB1.out.mono (bl2 (Below.refl _ _) _ _).size)⟩
set_option maxRecDepth 100000 in
set_option maxHeartbeats 4000000 in
theorem heard_out3 (A : Option Addr) (n c : Nat) (x0 x1 a b c' d x y : Int) (w : World) (hS : SentOk) (hn : 2 < n) : Calls Tryz.prog 3 #[.slice A n c, .agg #[.int .u8 x0, .int .u8 x1], .agg #[.int .i64 a, .int .i64 b, .int .i64 c', .int .i64 d, .int .i64 x, .int .i64 y]] w fun e w' => e = .returned (.bool true) ∧ Below w.heap.size w w' := by
  have HS := Lib.hid hS
  have h1 : decide ((n : Int) < 1) = false := decide_eq_false (by omega)
  have h2 : decide ((2 : Int) < (n : Int)) = true := decide_eq_true (by omega)
  have h3 : (2 : Int) < (n : Int) := by omega
  clear hS
  go_enter Tryz.func3, Tryz.ntmps3
  go_wp2_with (go_at_call 6; refine (HS.out _).mono ?_; rintro e w1 ⟨rfl, hb⟩; have HB1 := Lib.hid hb; clear hb)
  go_ret
  exact ⟨rfl, (bl2 (Below.refl _ _) _ _).trans (HB1.out.mono (bl2 (Below.refl _ _) _ _).size)⟩
set_option maxRecDepth 100000 in
set_option maxHeartbeats 4000000 in
theorem heard_outQ (A : Option Addr) (n c : Nat) (x0 x1 a b c' d x y : Int) (w : World) (hS : SentOk) (hn : 1 ≤ n ∧ n ≤ 2) (hQ : ∀ W, Calls Tryz.prog 5 #[.agg #[.int .i64 a, .int .i64 b, .int .i64 c', .int .i64 d, .int .i64 x, .int .i64 y], .int .i64 300] W fun e w' => e = .returned (.bool false) ∧ Below W.heap.size W w') : Calls Tryz.prog 3 #[.slice A n c, .agg #[.int .u8 x0, .int .u8 x1], .agg #[.int .i64 a, .int .i64 b, .int .i64 c', .int .i64 d, .int .i64 x, .int .i64 y]] w fun e w' => e = .returned (.bool true) ∧ Below w.heap.size w w' := by
  have HS := Lib.hid hS
  have HQ := Lib.hid hQ
  have h1 : decide ((n : Int) < 1) = false := decide_eq_false (by omega)
  have h2 : decide ((2 : Int) < (n : Int)) = false := decide_eq_false (by omega)
  have h3 : ¬ (2 : Int) < (n : Int) := by omega
  clear hS hQ
  go_enter Tryz.func3, Tryz.ntmps3
  go_wp2_with (first
    | (refine wpList_load_row rfl 27 _ rfl (w.heap.size + 1) rfl 27 #[.int .i64 a, .int .i64 b, .int .i64 c', .int .i64 d, .int .i64 x, .int .i64 y] (0, 0) _ row2 Tryz.underlying27 rfl ?_ ?_; (kernel_rfl))
    | (go_at_call 5; refine (HQ.out _).mono ?_; rintro e w0 ⟨rfl, hb⟩; have HB0 := Lib.hid hb; clear hb)
    | (go_at_call 6; refine (HS.out _).mono ?_; rintro e w1 ⟨rfl, hb⟩; have HB1 := Lib.hid hb; clear hb))
  go_ret
  have k1 := (bl2 (Below.refl w.heap.size w) (.cells #[.int .u8 x0, .int .u8 x1] 23) (.cells #[.int .i64 a, .int .i64 b, .int .i64 c', .int .i64 d, .int .i64 x, .int .i64 y] 27))
  have k2 := k1.trans (HB0.out.mono k1.size)
  exact ⟨rfl, k2.trans (HB1.out.mono k2.size)⟩
theorem fieldsRTH : ((Tryz.prog.fieldsOf 40).toList.map fun f => (f.name, f.type, f.offset)) = [("Num", 3, 0), ("Den", 3, 1)] := by kernel_rfl
theorem eqG9H (a b c d : Int) (w : World) : (Op.equalIn 9999 25 (.agg #[.int .i64 a, .int .i64 b]) (.agg #[.int .i64 c, .int .i64 d])).run Tryz.prog w = .ok (a == c && b == d) w := by
  have i3 := Tryz.underlying3
  have e1 : ∀ (a b : Int), (part 3 #[.int .i64 a, .int .i64 b] 0).run Tryz.prog w = .ok (.int .i64 a) w := fun a b => part_int _ _ _ rfl w
  have e2 : ∀ (a b : Int), (part 3 #[.int .i64 a, .int .i64 b] 1).run Tryz.prog w = .ok (.int .i64 b) w := fun a b => part_int _ _ _ rfl w
  have e4 := fun (a b : Int) => run_equalIn_int (P := Tryz.prog) w 9997 3 .i64 .i64 a b i3
  have n1 : ("Re" : String) ≠ "_" := by decide
  have n2 : ("Im" : String) ≠ "_" := by decide
  rw [run_eqStruct w 9998 _ _ _ _ (by kernel_rfl) (by kernel_rfl) fieldsG]
  simp only [eqTriples, if_pos n1, if_pos n2, Sem.run_bind, e1, e2, e4, Result.andThen_ok, Sem.run_ite, Sem.run_pure]
  cases a == c <;> cases b == d <;> simp [e1, e2, e4]
theorem eqInRH (a b c d : Int) (w : World) : (Op.equalIn 10000 40 (.agg #[.int .i64 a, .int .i64 b]) (.agg #[.int .i64 c, .int .i64 d])).run Tryz.prog w = .ok (a == c && b == d) w := by
  have i3 := Tryz.underlying3
  have e1 : ∀ (a b : Int), (part 3 #[.int .i64 a, .int .i64 b] 0).run Tryz.prog w = .ok (.int .i64 a) w := fun a b => part_int _ _ _ rfl w
  have e2 : ∀ (a b : Int), (part 3 #[.int .i64 a, .int .i64 b] 1).run Tryz.prog w = .ok (.int .i64 b) w := fun a b => part_int _ _ _ rfl w
  have e4 := fun (a b : Int) => run_equalIn_int (P := Tryz.prog) w 9998 3 .i64 .i64 a b i3
  have n1 : ("Num" : String) ≠ "_" := by decide
  have n2 : ("Den" : String) ≠ "_" := by decide
  rw [run_eqStruct w 9999 _ _ _ _ (by kernel_rfl) (by kernel_rfl) fieldsRTH]
  simp only [eqTriples, if_pos n1, if_pos n2, Sem.run_bind, e1, e2, e4, Result.andThen_ok, Sem.run_ite, Sem.run_pure]
  cases a == c <;> cases b == d <;> simp [e1, e2, e4]
theorem neqRH (a b c d : Int) (w : World) : (binOp .neq 40 (.agg #[.int .i64 a, .int .i64 b]) (.agg #[.int .i64 c, .int .i64 d])).run Tryz.prog w = .ok (.bool (!(a == c && b == d))) w := by
  rw [run_neq_struct, eqInRH]; rfl
theorem neqR_selfH (p q : Int) (w : World) : (binOp .neq 40 (.agg #[.int .i64 p, .int .i64 q]) (.agg #[.int .i64 p, .int .i64 q])).run Tryz.prog w = .ok (.bool false) w := by
  rw [neqRH]; simp
theorem eqInGH (a b c d : Int) (w : World) : (Op.equalIn 10000 25 (.agg #[.int .i64 a, .int .i64 b]) (.agg #[.int .i64 c, .int .i64 d])).run Tryz.prog w = .ok (a == c && b == d) w := by
  have i3 := Tryz.underlying3
  have e1 : ∀ (a b : Int), (part 3 #[.int .i64 a, .int .i64 b] 0).run Tryz.prog w = .ok (.int .i64 a) w := fun a b => part_int _ _ _ rfl w
  have e2 : ∀ (a b : Int), (part 3 #[.int .i64 a, .int .i64 b] 1).run Tryz.prog w = .ok (.int .i64 b) w := fun a b => part_int _ _ _ rfl w
  have e4 := fun (a b : Int) => run_equalIn_int (P := Tryz.prog) w 9998 3 .i64 .i64 a b i3
  have n1 : ("Re" : String) ≠ "_" := by decide
  have n2 : ("Im" : String) ≠ "_" := by decide
  rw [run_eqStruct w 9999 _ _ _ _ (by kernel_rfl) (by kernel_rfl) fieldsG]
  simp only [eqTriples, if_pos n1, if_pos n2, Sem.run_bind, e1, e2, e4, Result.andThen_ok, Sem.run_ite, Sem.run_pure]
  cases a == c <;> cases b == d <;> simp [e1, e2, e4]
theorem neqGH (a b c d : Int) (w : World) : (binOp .neq 25 (.agg #[.int .i64 a, .int .i64 b]) (.agg #[.int .i64 c, .int .i64 d])).run Tryz.prog w = .ok (.bool (!(a == c && b == d))) w := by
  rw [run_neq_struct, eqInGH]; rfl
theorem fieldsTSH : ((Tryz.prog.fieldsOf 34).toList.map fun f => (f.name, f.type, f.offset)) = [("Carrier", 25, 0), ("Low", 25, 2), ("High", 25, 4)] := by kernel_rfl
theorem neqTS_selfH (a b c d x y : Int) (w : World) : (binOp .neq 34 (.agg #[.int .i64 a, .int .i64 b, .int .i64 c, .int .i64 d, .int .i64 x, .int .i64 y]) (.agg #[.int .i64 a, .int .i64 b, .int .i64 c, .int .i64 d, .int .i64 x, .int .i64 y])).run Tryz.prog w = .ok (.bool false) w := by
  have e1 : (part 25 #[.int .i64 a, .int .i64 b, .int .i64 c, .int .i64 d, .int .i64 x, .int .i64 y] 0).run Tryz.prog w = .ok (.agg #[.int .i64 a, .int .i64 b]) w := by kernel_rfl
  have e2 : (part 25 #[.int .i64 a, .int .i64 b, .int .i64 c, .int .i64 d, .int .i64 x, .int .i64 y] 2).run Tryz.prog w = .ok (.agg #[.int .i64 c, .int .i64 d]) w := by kernel_rfl
  have e3 : (part 25 #[.int .i64 a, .int .i64 b, .int .i64 c, .int .i64 d, .int .i64 x, .int .i64 y] 4).run Tryz.prog w = .ok (.agg #[.int .i64 x, .int .i64 y]) w := by kernel_rfl
  have e4 := fun (a b : Int) => eqG9H a b a b w
  have n1 : ("Carrier" : String) ≠ "_" := by decide
  have n2 : ("Low" : String) ≠ "_" := by decide
  have n3 : ("High" : String) ≠ "_" := by decide
  rw [run_neq_struct, run_eqStruct w 9999 _ _ _ _ (by kernel_rfl) (by kernel_rfl) fieldsTSH]
  simp [eqTriples, Sem.run_bind, e1, e2, e3, e4, Result.andThen_ok, Sem.run_ite, Sem.run_pure]




theorem flat_getS {α : Type} (f : α → List Value) (m : Nat) (hf : ∀ x, (f x).length = m) (l : List α) (k : Nat) (hk : k < l.length) (j : Nat) (hj : j < m) : (l.flatMap f)[k * m + j]? = (f l[k])[j]? := by
  induction l generalizing k with
  | nil => simp at hk
  | cons p l ih =>
    cases k with
    | zero =>
      rw [List.flatMap_cons, Nat.zero_mul, Nat.zero_add, List.getElem?_append_left (by rw [hf]; exact hj)]; rfl
    | succ k =>
      have e : (k + 1) * m + j = m + (k * m + j) := by rw [Nat.succ_mul]; omega
      rw [List.flatMap_cons, e, List.getElem?_append_right (by rw [hf]; omega), hf, Nat.add_sub_cancel_left]
      exact ih k (by simpa using hk)
structure Sg where
  a : Int
  b : Int
  c : Int
  d : Int
  x : Int
  y : Int
def Sg.L (s : Sg) : List Value := [.int .i64 s.a, .int .i64 s.b, .int .i64 s.c, .int .i64 s.d, .int .i64 s.x, .int .i64 s.y]
def sgC (l : List Sg) : List Value := l.flatMap Sg.L
theorem Rd.sg {w : World} {A : Option Addr} {l : List Sg} (h : Rd w A (sgC l)) {k : Nat} (hk : k < l.length) : ∃ b off, A = some ⟨b, off, none⟩ ∧ w.cell? ⟨b, off + k * 6, none⟩ = some (.int .i64 l[k].a) ∧ w.cell? ⟨b, off + k * 6 + 1, none⟩ = some (.int .i64 l[k].b) ∧ w.cell? ⟨b, off + k * 6 + 2, none⟩ = some (.int .i64 l[k].c) ∧ w.cell? ⟨b, off + k * 6 + 3, none⟩ = some (.int .i64 l[k].d) ∧ w.cell? ⟨b, off + k * 6 + 4, none⟩ = some (.int .i64 l[k].x) ∧ w.cell? ⟨b, off + k * 6 + 5, none⟩ = some (.int .i64 l[k].y) := by
  have g := fun j hj => flat_getS Sg.L 6 (fun _ => rfl) l k hk j hj
  obtain ⟨b, o, e, c0⟩ := h (k * 6 + 0) _ (g 0 (by decide))
  have st : ∀ j v, (sgC l)[k * 6 + j]? = some v → w.cell? ⟨b, o + k * 6 + j, none⟩ = some v := fun j v hv => by
    obtain ⟨b', o', e', c⟩ := h _ _ hv
    rw [e] at e'
    cases e'
    rw [Nat.add_assoc]; exact c
  exact ⟨b, o, e, st 0 _ (g 0 (by decide)), st 1 _ (g 1 (by decide)), st 2 _ (g 2 (by decide)), st 3 _ (g 3 (by decide)), st 4 _ (g 4 (by decide)), st 5 _ (g 5 (by decide))⟩


theorem size_drewT (w : World) : w.drew.heap.size = w.heap.size := rfl
def lowN (n d : Int) : Int := n.tdiv (gcdI n d)
def lowD (n d : Int) : Int := d / gcdI n d
theorem gcdI_scale (n d k : Int) (hk : 0 < k) : gcdI (n * k) (d * k) = gcdI n d * k := by
  unfold gcdI
  rw [Int.gcd_mul_right]
  have : (k.natAbs : Int) = k := by omega
  rw [Int.natCast_mul, this]
theorem lowN_scale (n d k : Int) (hk : 0 < k) : lowN (n * k) (d * k) = lowN n d := by
  unfold lowN
  rw [gcdI_scale n d k hk, Int.mul_tdiv_mul_of_pos_left _ _ hk]
theorem lowD_scale (n d k : Int) (hk : 0 < k) : lowD (n * k) (d * k) = lowD n d := by
  unfold lowD
  rw [gcdI_scale n d k hk, Int.mul_ediv_mul_of_pos_left _ _ hk]
end Go.Proofs.YtlflfieknibgmaaGreatDoor
